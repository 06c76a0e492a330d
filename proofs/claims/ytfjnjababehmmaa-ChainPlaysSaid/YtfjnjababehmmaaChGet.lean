/- A chain: At, Get. -/
import Derived.Test.YtfjnjababehmmaaChPut2
import Derived.Test.YtfjnjababehmmaaChSeen
set_option linter.unusedSimpArgs false
set_option linter.unusedVariables false
namespace Go.Proofs.Ytfjnjababehmmaa
open Go.RowKit Go.Sort

def AtSome (x : Mv) (w w' : World) (e : Ending) : Prop := ∃ A c, e = .returned (.tuple #[Mv.val ⟨x.v, A, c⟩, .bool true]) ∧ w'.ownsRow w.heap.size 5 1 (.slice A x.v.val.length c) x.v.val.length (bC x.v.val) ∧ Below w.heap.size w w'
/-- The version that stands at a place of a chain's row. -/
theorem Ch.ver {P : Nat → Prop} {w : World} {b g c : Nat} {L : List Mv} (h : Ch P w b (.slice (some ⟨g, 0, none⟩) L.length c) L) {k : Nat} {x : Mv} (hk : L[k]? = some x) : w.cell? ⟨g, k * 6, none⟩ = some (.int .i64 x.v.ml) ∧ w.cell? ⟨g, k * 6 + 1, none⟩ = some (.int .i64 x.v.ct) ∧ w.cell? ⟨g, k * 6 + 2, none⟩ = some (.int .i64 x.v.vo) ∧ w.cell? ⟨g, k * 6 + 3, none⟩ = some (.slice x.A x.v.val.length x.c) ∧ w.cell? ⟨g, k * 6 + 4, none⟩ = some (.bool x.v.gone) ∧ w.cell? ⟨g, k * 6 + 5, none⟩ = some (.int .i64 x.v.tt) := row_ver h.row hk
set_option maxRecDepth 100000 in
set_option maxHeartbeats 4000000 in
theorem ch_at_none (P : Nat → Prop) (b : Nat) (v : Value) (L : List Mv) (tm tc : Int) (w : World) (h : Ch P w b v L) (hl : L.length ≤ 1000000) (hs : StandV L (fun x => cmp2 x.ml x.ct tm tc ≤ 0) 0) :
    Calls Try.prog 21 #[.pointer (some ⟨b, 0, none⟩), .agg #[.int .i64 tm, .int .i64 tc]] w fun e w' => e = .returned (.tuple #[verV 0 0 0 none 0 0 false 0, .bool false]) ∧ Below w.heap.size w w' := by
  have HB0 : Below w.heap.size w ((w.alloc (.cells #[.int .i64 tm, .int .i64 tc] 25)).alloc (verO 0 0 0 none 0 0 false 0)) := by (repeat' (first | (with_reducible exact Below.refl _ _) | (with_reducible assumption) | (with_reducible refine Below.trans ?_ (Below.mono (by with_reducible assumption) ?_)) | (with_reducible refine Below.alloc ?_ ?_ _) | (with_reducible refine Below.setCell ?_ ?_ _) | (with_reducible refine below_drewN ?_ _) | (with_reducible refine Below.drew ?_) | go_size))
  have HU := Lib.hid (ch_upTo P b v L tm tc 0 _ (h.below HB0) hl hs)
  clear h hl hs
  go_enter Try.func21, Try.ntmps21
  go_wp2_with (go_at_call 41; refine HU.out.mono ?_; rintro e w1 ⟨rfl, hb1⟩; have r0 : w1.cell? ⟨w.heap.size + 1, 0, none⟩ = some (.int .i64 0) := (hb1.cell (p := ⟨w.heap.size + 1, 0, none⟩) (by simp)).trans (by simp); have r1 : w1.cell? ⟨w.heap.size + 1, 1, none⟩ = some (.int .i64 0) := (hb1.cell (p := ⟨w.heap.size + 1, 1, none⟩) (by simp)).trans (by simp); have r2 : w1.cell? ⟨w.heap.size + 1, 2, none⟩ = some (.int .i64 0) := (hb1.cell (p := ⟨w.heap.size + 1, 2, none⟩) (by simp)).trans (by simp); have r3 : w1.cell? ⟨w.heap.size + 1, 3, none⟩ = some (.slice none 0 0) := (hb1.cell (p := ⟨w.heap.size + 1, 3, none⟩) (by simp)).trans (by simp); have r4 : w1.cell? ⟨w.heap.size + 1, 4, none⟩ = some (.bool false) := (hb1.cell (p := ⟨w.heap.size + 1, 4, none⟩) (by simp)).trans (by simp); have r5 : w1.cell? ⟨w.heap.size + 1, 5, none⟩ = some (.int .i64 0) := (hb1.cell (p := ⟨w.heap.size + 1, 5, none⟩) (by simp)).trans (by simp); have f0 : ∀ k, w1.frozen? ⟨w.heap.size + 1, k, none⟩ = false := (fun k => (hb1.frozen (p := ⟨w.heap.size + 1, k, none⟩) (by simp)).trans (by simp)); have z1 : w.heap.size + 1 + 1 ≤ w1.heap.size := (by have := hb1.size; simpa using this); have HB1 := Lib.hid (HB0.trans (hb1.mono HB0.size)); clear hb1)
  (try go_wp2)
  have HF : Below w.heap.size w ((((((w1.setCell ⟨w.heap.size + 1, 0, none⟩ (.int .i64 0)).setCell ⟨w.heap.size + 1, 1, none⟩ (.int .i64 0)).setCell ⟨w.heap.size + 1, 2, none⟩ (.int .i64 0)).setCell ⟨w.heap.size + 1, 3, none⟩ (.slice none 0 0)).setCell ⟨w.heap.size + 1, 4, none⟩ (.bool false)).setCell ⟨w.heap.size + 1, 5, none⟩ (.int .i64 0)) := by
    have h0 := HB1.out
    clear HB1
    (repeat' (first | (with_reducible exact Below.refl _ _) | (with_reducible assumption) | (with_reducible refine Below.trans ?_ (Below.mono (by with_reducible assumption) ?_)) | (with_reducible refine Below.alloc ?_ ?_ _) | (with_reducible refine Below.setCell ?_ ?_ _) | (with_reducible refine below_drewN ?_ _) | (with_reducible refine Below.drew ?_) | go_size))
  refine bodyPost_ret (v := .tuple #[verV 0 0 0 none 0 0 false 0, .bool false]) (by simp [results, Try.results21, go_sem, r0, r1, r2, r3, r4, r5]) rfl ⟨rfl, HF⟩
set_option maxRecDepth 100000 in
set_option maxHeartbeats 4000000 in
theorem ch_at_some (P : Nat → Prop) (b : Nat) (v : Value) (L : List Mv) (tm tc : Int) (k : Nat) (x : Mv) (w : World) (h : Ch P w b v L) (hl : L.length ≤ 1000000) (hs : StandV L (fun x => cmp2 x.ml x.ct tm tc ≤ 0) (k + 1)) (hx : L[k]? = some x) (hxl : x.v.val.length ≤ 100000) :
    Calls Try.prog 21 #[.pointer (some ⟨b, 0, none⟩), .agg #[.int .i64 tm, .int .i64 tc]] w fun e w' => AtSome x w w' e := by
  have HB0 : Below w.heap.size w ((w.alloc (.cells #[.int .i64 tm, .int .i64 tc] 25)).alloc (verO 0 0 0 none 0 0 false 0)) := by (repeat' (first | (with_reducible exact Below.refl _ _) | (with_reducible assumption) | (with_reducible refine Below.trans ?_ (Below.mono (by with_reducible assumption) ?_)) | (with_reducible refine Below.alloc ?_ ?_ _) | (with_reducible refine Below.setCell ?_ ?_ _) | (with_reducible refine below_drewN ?_ _) | (with_reducible refine Below.drew ?_) | go_size))
  have HU := Lib.hid (ch_upTo P b v L tm tc (k + 1) _ (h.below HB0) hl hs)
  have hkl : k < L.length := (List.getElem?_eq_some_iff.1 hx).1
  obtain ⟨g, cap, rfl, _⟩ := row_shape h.row (by omega)
  have HH := Lib.hid h
  have HX := Lib.hid hx
  have hcx := fun W (hp : ByL W x.A x.v.val) => ch_copied x W hp (h.ats x (List.mem_of_getElem? hx)).n hxl
  obtain ⟨⟨ml, ct, vo, val, gn, tt⟩, A, cc⟩ := x
  have HCP := Lib.hid hcx
  have HBY := Lib.hid (h.ats _ (List.mem_of_getElem? hx)).b
  have e1 : IntKind.i64.wrap ((k : Int) + 1 - 1) = (k : Int) := by rw [show (k : Int) + 1 - 1 = k from by omega]; exact IntWalk.i64_in _ (by omega)
  have e2 : IntKind.i64.wrap (k : Int) = (k : Int) := IntWalk.i64_in _ (by omega)
  have hk2 : (k : Int) < (L.length : Int) := by omega
  have hk3 : ¬ ((k : Int) + 1 = 0) := by omega
  clear h hs hcx hx
  go_enter Try.func21, Try.ntmps21
  go_wp2_with (go_at_call 41; refine HU.out.mono ?_; rintro e w1 ⟨rfl, hb1⟩; have hbb := HB0.trans (hb1.mono HB0.size); have H1 := HH.out.below hbb; have c0 := H1.c0; obtain ⟨q0, q1, q2, q3, q4, q5⟩ := H1.ver HX.out; have HBY1 := Lib.hid (HBY.out.below hbb); have r0 : w1.cell? ⟨w.heap.size + 1, 0, none⟩ = some (.int .i64 0) := (hb1.cell (p := ⟨w.heap.size + 1, 0, none⟩) (by simp)).trans (by simp); have r1 : w1.cell? ⟨w.heap.size + 1, 1, none⟩ = some (.int .i64 0) := (hb1.cell (p := ⟨w.heap.size + 1, 1, none⟩) (by simp)).trans (by simp); have r2 : w1.cell? ⟨w.heap.size + 1, 2, none⟩ = some (.int .i64 0) := (hb1.cell (p := ⟨w.heap.size + 1, 2, none⟩) (by simp)).trans (by simp); have r3 : w1.cell? ⟨w.heap.size + 1, 3, none⟩ = some (.slice none 0 0) := (hb1.cell (p := ⟨w.heap.size + 1, 3, none⟩) (by simp)).trans (by simp); have r4 : w1.cell? ⟨w.heap.size + 1, 4, none⟩ = some (.bool false) := (hb1.cell (p := ⟨w.heap.size + 1, 4, none⟩) (by simp)).trans (by simp); have r5 : w1.cell? ⟨w.heap.size + 1, 5, none⟩ = some (.int .i64 0) := (hb1.cell (p := ⟨w.heap.size + 1, 5, none⟩) (by simp)).trans (by simp); have f0 : ∀ k, w1.frozen? ⟨w.heap.size + 1, k, none⟩ = false := (fun k => (hb1.frozen (p := ⟨w.heap.size + 1, k, none⟩) (by simp)).trans (by simp)); have z1 : w.heap.size + 1 + 1 ≤ w1.heap.size := (by have := hb1.size; simpa using this); have HB1 := Lib.hid hbb; clear hb1 hbb H1)
  go_wp2_with (go_at_call 36; refine (HCP.out _ HBY1.out).mono ?_; rintro e w2 ⟨A2, k2, rfl, ho2, hb2⟩; have l1 : w.heap.size + 1 < w1.heap.size := (by omega); have s0 : w2.cell? ⟨w.heap.size + 1, 0, none⟩ = some (.int .i64 0) := (hb2.cell (p := ⟨w.heap.size + 1, 0, none⟩) l1).trans r0; have s1 : w2.cell? ⟨w.heap.size + 1, 1, none⟩ = some (.int .i64 0) := (hb2.cell (p := ⟨w.heap.size + 1, 1, none⟩) l1).trans r1; have s2 : w2.cell? ⟨w.heap.size + 1, 2, none⟩ = some (.int .i64 0) := (hb2.cell (p := ⟨w.heap.size + 1, 2, none⟩) l1).trans r2; have s3 : w2.cell? ⟨w.heap.size + 1, 3, none⟩ = some (.slice none 0 0) := (hb2.cell (p := ⟨w.heap.size + 1, 3, none⟩) l1).trans r3; have s4 : w2.cell? ⟨w.heap.size + 1, 4, none⟩ = some (.bool false) := (hb2.cell (p := ⟨w.heap.size + 1, 4, none⟩) l1).trans r4; have s5 : w2.cell? ⟨w.heap.size + 1, 5, none⟩ = some (.int .i64 0) := (hb2.cell (p := ⟨w.heap.size + 1, 5, none⟩) l1).trans r5; have f2 : ∀ k, w2.frozen? ⟨w.heap.size + 1, k, none⟩ = false := (fun k => (hb2.frozen (p := ⟨w.heap.size + 1, k, none⟩) l1).trans (f0 k)); have z2 := hb2.size; have HB2 := Lib.hid (HB1.out.trans (hb2.mono HB1.out.size)); have HO := Lib.hid ho2; clear hb2 ho2 r0 r1 r2 r3 r4 r5 f0 q0 q1 q2 q3 q4 q5)
  (try go_wp2)
  have HF : Below w.heap.size w ((((((w2.setCell ⟨w.heap.size + 1, 0, none⟩ (.int .i64 ml)).setCell ⟨w.heap.size + 1, 1, none⟩ (.int .i64 ct)).setCell ⟨w.heap.size + 1, 2, none⟩ (.int .i64 vo)).setCell ⟨w.heap.size + 1, 3, none⟩ (.slice A2 val.length k2)).setCell ⟨w.heap.size + 1, 4, none⟩ (.bool gn)).setCell ⟨w.heap.size + 1, 5, none⟩ (.int .i64 tt)) := by
    have h0 := HB2.out
    clear HB1 HB2
    (repeat' (first | (with_reducible exact Below.refl _ _) | (with_reducible assumption) | (with_reducible refine Below.trans ?_ (Below.mono (by with_reducible assumption) ?_)) | (with_reducible refine Below.alloc ?_ ?_ _) | (with_reducible refine Below.setCell ?_ ?_ _) | (with_reducible refine below_drewN ?_ _) | (with_reducible refine Below.drew ?_) | go_size))
  have HR := own_far HO.out ((by (repeat' (first | (with_reducible exact But.refl _ _) | (with_reducible assumption) | (with_reducible refine But.setCell ?_ (fun _ => ?_) _) | (with_reducible refine But.alloc ?_ _) | (with_reducible refine But.drewN ?_ _) | (with_reducible refine But.drew ?_) | (show _ < _; simp only [World.size_alloc, World.size_setCell, World.heap_drewN]; omega) | go_size))) : But (fun i => i < w1.heap.size) w2 ((((((w2.setCell ⟨w.heap.size + 1, 0, none⟩ (.int .i64 ml)).setCell ⟨w.heap.size + 1, 1, none⟩ (.int .i64 ct)).setCell ⟨w.heap.size + 1, 2, none⟩ (.int .i64 vo)).setCell ⟨w.heap.size + 1, 3, none⟩ (.slice A2 val.length k2)).setCell ⟨w.heap.size + 1, 4, none⟩ (.bool gn)).setCell ⟨w.heap.size + 1, 5, none⟩ (.int .i64 tt)))
  refine bodyPost_ret (v := .tuple #[verV ml ct vo A2 val.length k2 gn tt, .bool true]) (by simp [results, Try.results21, go_sem, s0, s1, s2, s3, s4, s5]) rfl ⟨A2, k2, rfl, own_base (by omega) HR, HF⟩
end Go.Proofs.Ytfjnjababehmmaa
