/- A chain: Get; a nil chain. -/
import Derived.Test.YtfjnjababehmmaaChGet
set_option linter.unusedSimpArgs false
set_option linter.unusedVariables false
namespace Go.Proofs.Ytfjnjababehmmaa
open Go.RowKit Go.Sort

def GetSome (x : Mv) (w w' : World) (e : Ending) : Prop := ∃ v, e = .returned (.tuple #[v, .bool true]) ∧ w'.ownsRow w.heap.size 5 1 v x.v.val.length (bC x.v.val) ∧ Below w.heap.size w w'
set_option maxRecDepth 100000 in
set_option maxHeartbeats 4000000 in
theorem ch_get_none (P : Nat → Prop) (b : Nat) (v : Value) (L : List Mv) (tm tc : Int) (w : World) (h : Ch P w b v L) (hl : L.length ≤ 1000000) (hs : StandV L (fun x => cmp2 x.ml x.ct tm tc ≤ 0) 0) :
    Calls Try.prog 23 #[.pointer (some ⟨b, 0, none⟩), .agg #[.int .i64 tm, .int .i64 tc]] w fun e w' => e = .returned (.tuple #[.slice none 0 0, .bool false]) ∧ Below w.heap.size w w' := by
  have HB0 : Below w.heap.size w (w.alloc (.cells #[.int .i64 tm, .int .i64 tc] 25)) := by (repeat' (first | (with_reducible exact Below.refl _ _) | (with_reducible assumption) | (with_reducible refine Below.trans ?_ (Below.mono (by with_reducible assumption) ?_)) | (with_reducible refine Below.alloc ?_ ?_ _) | (with_reducible refine Below.setCell ?_ ?_ _) | (with_reducible refine below_drewN ?_ _) | (with_reducible refine Below.drew ?_) | go_size))
  have HU := Lib.hid (ch_upTo P b v L tm tc 0 _ (h.below HB0) hl hs)
  clear h hl hs
  go_enter Try.func23, Try.ntmps23
  go_wp2_with (go_at_call 41; refine HU.out.mono ?_; rintro e w1 ⟨rfl, hb1⟩; have HB1 := Lib.hid (HB0.trans (hb1.mono HB0.size)); clear hb1)
  refine wp_region_quiet_below (by kernel_rfl) (by kernel_rfl) ?_
  repeat (go_big_quiet_step ((go_at_call 32; exact HX)))
  refine wpQuiet_nil ?_
  intro _ hw'
  obtain ⟨⟨dq, osq⟩, hw''⟩ := hw'
  subst hw''
  have HB2 := HB1.out.trans ((below_regrown w1 dq osq).mono HB1.out.size)
  go_wp2
  go_ret2
  exact ⟨rfl, HB2⟩
set_option maxRecDepth 100000 in
set_option maxHeartbeats 8000000 in
theorem ch_get_unseen (P : Nat → Prop) (b : Nat) (v : Value) (L : List Mv) (tm tc : Int) (k : Nat) (x : Mv) (w : World) (h : Ch P w b v L) (hl : L.length ≤ 1000000) (hs : StandV L (fun x => cmp2 x.ml x.ct tm tc ≤ 0) (k + 1)) (hx : L[k]? = some x) (ho : x.v.ok = true) (hsn : seenB x.v tm tc = false) (hw : (Lit.int .i64 tm).wf = true) :
    Calls Try.prog 23 #[.pointer (some ⟨b, 0, none⟩), .agg #[.int .i64 tm, .int .i64 tc]] w fun e w' => e = .returned (.tuple #[.slice none 0 0, .bool false]) ∧ Below w.heap.size w w' := by
  have HB0 : Below w.heap.size w (w.alloc (.cells #[.int .i64 tm, .int .i64 tc] 25)) := by (repeat' (first | (with_reducible exact Below.refl _ _) | (with_reducible assumption) | (with_reducible refine Below.trans ?_ (Below.mono (by with_reducible assumption) ?_)) | (with_reducible refine Below.alloc ?_ ?_ _) | (with_reducible refine Below.setCell ?_ ?_ _) | (with_reducible refine below_drewN ?_ _) | (with_reducible refine Below.drew ?_) | go_size))
  have HU := Lib.hid (ch_upTo P b v L tm tc (k + 1) _ (h.below HB0) hl hs)
  have hkl : k < L.length := (List.getElem?_eq_some_iff.1 hx).1
  obtain ⟨g, cap, rfl, _⟩ := row_shape h.row (by omega)
  have HH := Lib.hid h
  have HX := Lib.hid hx
  have hat := h.ats x (List.mem_of_getElem? hx)
  obtain ⟨⟨ml, ct, vo, val, gn, tt⟩, A, cc⟩ := x
  have hob : okV ml ct vo val.length gn tt = true := ho
  have hbd : 0 ≤ ml ∧ ml ≤ 281474976710655 ∧ 0 ≤ tt ∧ tt ≤ 281474976710655 ∧ val.length ≤ 1024 := by
    simp [okV, isStB] at hob
    omega
  obtain ⟨m0, m1, t0, t1, vl⟩ := hbd
  have HSN0 := fun W => ch_seen ml ct vo A val.length cc gn tt tm tc val W m0 t0 m1 t1 hw
  have HCL := Lib.hid (fun W (hp : ByL W A val) => bytes_clone A val cc W hp hat.n (by omega))
  have HBY := Lib.hid hat.b
  have e1 : IntKind.i64.wrap ((k : Int) + 1 - 1) = (k : Int) := by rw [show (k : Int) + 1 - 1 = k from by omega]; exact IntWalk.i64_in _ (by omega)
  have e2 : IntKind.i64.wrap (k : Int) = (k : Int) := IntWalk.i64_in _ (by omega)
  have hk2 : (k : Int) < (L.length : Int) := by omega
  have hk3 : ((k : Int) + 1 == 0) = false := beq_no (by omega)
  have hk4 : ¬ ((k : Int) + 1 = 0) := by omega
  have hsb : seenB ⟨ml, ct, vo, val, gn, tt⟩ tm tc = false := hsn
  rw [hsb] at HSN0
  have HSN := Lib.hid HSN0
  clear h hs hx ho hob hsb hsn HSN0 hat m0 m1 t0 t1 hw
  go_enter Try.func23, Try.ntmps23
  go_wp2_with (go_at_call 41; refine HU.out.mono ?_; rintro e w1 ⟨rfl, hb1⟩; have hbb := HB0.trans (hb1.mono HB0.size); have H1 := HH.out.below hbb; have c0 := H1.c0; obtain ⟨q0, q1, q2, q3, q4, q5⟩ := H1.ver HX.out; have s0 : w1.cell? ⟨w.heap.size, 0, none⟩ = some (.int .i64 tm) := (hb1.cell (p := ⟨w.heap.size, 0, none⟩) (by simp)).trans (by simp); have s1 : w1.cell? ⟨w.heap.size, 1, none⟩ = some (.int .i64 tc) := (hb1.cell (p := ⟨w.heap.size, 1, none⟩) (by simp)).trans (by simp); have HB1 := Lib.hid hbb; clear hb1 hbb H1)
  have kc0 := fun d os => cell_regrown c0 d os
  have kq0 := fun d os => cell_regrown q0 d os
  have kq1 := fun d os => cell_regrown q1 d os
  have kq2 := fun d os => cell_regrown q2 d os
  have kq3 := fun d os => cell_regrown q3 d os
  have kq4 := fun d os => cell_regrown q4 d os
  have kq5 := fun d os => cell_regrown q5 d os
  have ks0 := fun d os => cell_regrown s0 d os
  have ks1 := fun d os => cell_regrown s1 d os
  have AC := Lib.hid fun (d' : Nat) (os : Array Obj) => Calls.regrown_of (HSN.out (grow (redrawn w1 d') os))
  clear c0 q0 q1 q2 q3 q4 q5 s0 s1 HSN HU HCL HBY HX HH
  refine wp_region_quiet_below (by kernel_rfl) (by kernel_rfl) ?_
  repeat (go_big_quiet_step ((go_at_call 32; exact AC.out _ _)))
  refine wpQuiet_nil ?_
  intro _ hw'
  obtain ⟨⟨dq, osq⟩, hw''⟩ := hw'
  subst hw''
  have HB2 := HB1.out.trans ((below_regrown w1 dq osq).mono HB1.out.size)
  go_wp2
  go_ret2
  exact ⟨rfl, HB2⟩
set_option maxRecDepth 100000 in
set_option maxHeartbeats 8000000 in
theorem ch_get_seen (P : Nat → Prop) (b : Nat) (v : Value) (L : List Mv) (tm tc : Int) (k : Nat) (x : Mv) (w : World) (h : Ch P w b v L) (hl : L.length ≤ 1000000) (hs : StandV L (fun x => cmp2 x.ml x.ct tm tc ≤ 0) (k + 1)) (hx : L[k]? = some x) (ho : x.v.ok = true) (hsn : seenB x.v tm tc = true) (hw : (Lit.int .i64 tm).wf = true) :
    Calls Try.prog 23 #[.pointer (some ⟨b, 0, none⟩), .agg #[.int .i64 tm, .int .i64 tc]] w fun e w' => GetSome x w w' e := by
  have HB0 : Below w.heap.size w (w.alloc (.cells #[.int .i64 tm, .int .i64 tc] 25)) := by (repeat' (first | (with_reducible exact Below.refl _ _) | (with_reducible assumption) | (with_reducible refine Below.trans ?_ (Below.mono (by with_reducible assumption) ?_)) | (with_reducible refine Below.alloc ?_ ?_ _) | (with_reducible refine Below.setCell ?_ ?_ _) | (with_reducible refine below_drewN ?_ _) | (with_reducible refine Below.drew ?_) | go_size))
  have HU := Lib.hid (ch_upTo P b v L tm tc (k + 1) _ (h.below HB0) hl hs)
  have hkl : k < L.length := (List.getElem?_eq_some_iff.1 hx).1
  obtain ⟨g, cap, rfl, _⟩ := row_shape h.row (by omega)
  have HH := Lib.hid h
  have HX := Lib.hid hx
  have hat := h.ats x (List.mem_of_getElem? hx)
  obtain ⟨⟨ml, ct, vo, val, gn, tt⟩, A, cc⟩ := x
  have hob : okV ml ct vo val.length gn tt = true := ho
  have hbd : 0 ≤ ml ∧ ml ≤ 281474976710655 ∧ 0 ≤ tt ∧ tt ≤ 281474976710655 ∧ val.length ≤ 1024 := by
    simp [okV, isStB] at hob
    omega
  obtain ⟨m0, m1, t0, t1, vl⟩ := hbd
  have HSN0 := fun W => ch_seen ml ct vo A val.length cc gn tt tm tc val W m0 t0 m1 t1 hw
  have HCL := Lib.hid (fun W (hp : ByL W A val) => bytes_clone A val cc W hp hat.n (by omega))
  have HBY := Lib.hid hat.b
  have e1 : IntKind.i64.wrap ((k : Int) + 1 - 1) = (k : Int) := by rw [show (k : Int) + 1 - 1 = k from by omega]; exact IntWalk.i64_in _ (by omega)
  have e2 : IntKind.i64.wrap (k : Int) = (k : Int) := IntWalk.i64_in _ (by omega)
  have hk2 : (k : Int) < (L.length : Int) := by omega
  have hk3 : ((k : Int) + 1 == 0) = false := beq_no (by omega)
  have hk4 : ¬ ((k : Int) + 1 = 0) := by omega
  have hsb : seenB ⟨ml, ct, vo, val, gn, tt⟩ tm tc = true := hsn
  rw [hsb] at HSN0
  have HSN := Lib.hid HSN0
  clear h hs hx ho hob hsb hsn HSN0 hat m0 m1 t0 t1 hw
  go_enter Try.func23, Try.ntmps23
  go_wp2_with (go_at_call 41; refine HU.out.mono ?_; rintro e w1 ⟨rfl, hb1⟩; have hbb := HB0.trans (hb1.mono HB0.size); have H1 := HH.out.below hbb; have c0 := H1.c0; obtain ⟨q0, q1, q2, q3, q4, q5⟩ := H1.ver HX.out; have s0 : w1.cell? ⟨w.heap.size, 0, none⟩ = some (.int .i64 tm) := (hb1.cell (p := ⟨w.heap.size, 0, none⟩) (by simp)).trans (by simp); have s1 : w1.cell? ⟨w.heap.size, 1, none⟩ = some (.int .i64 tc) := (hb1.cell (p := ⟨w.heap.size, 1, none⟩) (by simp)).trans (by simp); have HB1 := Lib.hid hbb; clear hb1 hbb H1)
  have kc0 := fun d os => cell_regrown c0 d os
  have kq0 := fun d os => cell_regrown q0 d os
  have kq1 := fun d os => cell_regrown q1 d os
  have kq2 := fun d os => cell_regrown q2 d os
  have kq3 := fun d os => cell_regrown q3 d os
  have kq4 := fun d os => cell_regrown q4 d os
  have kq5 := fun d os => cell_regrown q5 d os
  have ks0 := fun d os => cell_regrown s0 d os
  have ks1 := fun d os => cell_regrown s1 d os
  have AC := Lib.hid fun (d' : Nat) (os : Array Obj) => Calls.regrown_of (HSN.out (grow (redrawn w1 d') os))
  clear c0 q0 q1 q2 q3 q4 q5 s0 s1 HSN HU HX
  refine wp_region_quiet_below (by kernel_rfl) (by kernel_rfl) ?_
  repeat (go_big_quiet_step ((go_at_call 32; exact AC.out _ _)))
  refine wpQuiet_nil ?_
  intro _ hw'
  obtain ⟨⟨dq, osq⟩, hw''⟩ := hw'
  subst hw''
  have HB2 := Lib.hid (HB1.out.trans ((below_regrown w1 dq osq).mono HB1.out.size))
  have c0 := kc0 dq osq
  have q3 := kq3 dq osq
  have HBY2 := Lib.hid (HBY.out.below HB2.out)
  clear kc0 kq0 kq1 kq2 kq3 kq4 kq5 ks0 ks1 AC HB1 HBY
  generalize grow (redrawn w1 dq) osq = w2 at *
  go_wp2_with (go_at_call 43; refine (HCL.out _ HBY2.out).mono ?_; rintro e w3 ⟨v3, rfl, ho3, hb3⟩; have HB3 := Lib.hid (HB2.out.trans (hb3.mono HB2.out.size)); have HO3 := Lib.hid (own_base HB2.out.size ho3); clear hb3 ho3)
  (try go_wp2)
  go_ret2
  exact ⟨v3, rfl, HO3.out, HB3.out⟩
set_option maxHeartbeats 1000000 in
theorem nil_up (tm tc : Int) (w : World) : Calls Try.prog 41 #[.pointer none, .agg #[.int .i64 tm, .int .i64 tc]] w fun e w' => e = .returned (.int .i64 0) ∧ Below w.heap.size w w' := by
  go_enter Try.func41, Try.ntmps41
  go_wp2
  go_ret
  go_light
  exact ⟨rfl, by (repeat' (first | (with_reducible exact Below.refl _ _) | (with_reducible assumption) | (with_reducible refine Below.trans ?_ (Below.mono (by with_reducible assumption) ?_)) | (with_reducible refine Below.alloc ?_ ?_ _) | (with_reducible refine Below.setCell ?_ ?_ _) | (with_reducible refine below_drewN ?_ _) | (with_reducible refine Below.drew ?_) | go_size))⟩
set_option maxHeartbeats 1000000 in
theorem nil_put (v : Value) (m : Mv) (hv : v = m.val) (w : World) : Calls Try.prog 15 #[.pointer none, v] w fun e w' => e = .returned (.int .i64 1) ∧ Below w.heap.size w w' := by
  subst hv
  obtain ⟨⟨ml, ct, vo, val, gn, tt⟩, A, cc⟩ := m
  go_enter Try.func15, Try.ntmps15
  go_wp2
  go_ret
  go_light
  exact ⟨rfl, by (repeat' (first | (with_reducible exact Below.refl _ _) | (with_reducible assumption) | (with_reducible refine Below.trans ?_ (Below.mono (by with_reducible assumption) ?_)) | (with_reducible refine Below.alloc ?_ ?_ _) | (with_reducible refine Below.setCell ?_ ?_ _) | (with_reducible refine below_drewN ?_ _) | (with_reducible refine Below.drew ?_) | go_size))⟩
set_option maxHeartbeats 1000000 in
theorem nil_all (w : World) : Calls Try.prog 28 #[.pointer none] w fun e w' => e = .returned (.slice none 0 0) ∧ w = w' := by
  go_enter Try.func28, Try.ntmps28
  go_wp2
  go_ret
  exact ⟨rfl, rfl⟩
set_option maxHeartbeats 1000000 in
theorem nil_trim (tm tc : Int) (w : World) : Calls Try.prog 26 #[.pointer none, .agg #[.int .i64 tm, .int .i64 tc]] w fun e w' => e = .returned (.int .i64 0) ∧ Below w.heap.size w w' := by
  go_enter Try.func26, Try.ntmps26
  go_wp2_with (go_at_call 41; refine (nil_up tm tc _).mono ?_; rintro e w1 ⟨rfl, hb1⟩)
  go_ret
  go_light
  exact ⟨rfl, by (repeat' (first | (with_reducible exact Below.refl _ _) | (with_reducible assumption) | (with_reducible refine Below.trans ?_ (Below.mono (by with_reducible assumption) ?_)) | (with_reducible refine Below.alloc ?_ ?_ _) | (with_reducible refine Below.setCell ?_ ?_ _) | (with_reducible refine below_drewN ?_ _) | (with_reducible refine Below.drew ?_) | go_size))⟩
set_option maxHeartbeats 1000000 in
theorem nil_get (tm tc : Int) (w : World) : Calls Try.prog 23 #[.pointer none, .agg #[.int .i64 tm, .int .i64 tc]] w fun e w' => e = .returned (.tuple #[.slice none 0 0, .bool false]) ∧ Below w.heap.size w w' := by
  have HB0 : Below w.heap.size w (w.alloc (.cells #[.int .i64 tm, .int .i64 tc] 25)) := by (repeat' (first | (with_reducible exact Below.refl _ _) | (with_reducible assumption) | (with_reducible refine Below.trans ?_ (Below.mono (by with_reducible assumption) ?_)) | (with_reducible refine Below.alloc ?_ ?_ _) | (with_reducible refine Below.setCell ?_ ?_ _) | (with_reducible refine below_drewN ?_ _) | (with_reducible refine Below.drew ?_) | go_size))
  have HU := Lib.hid (fun W => nil_up tm tc W)
  go_enter Try.func23, Try.ntmps23
  go_wp2_with (go_at_call 41; refine (HU.out _).mono ?_; rintro e w1 ⟨rfl, hb1⟩; have HB1 := Lib.hid (HB0.trans (hb1.mono HB0.size)); clear hb1)
  refine wp_region_quiet_below (by kernel_rfl) (by kernel_rfl) ?_
  repeat (go_big_quiet_step ((go_at_call 32; exact HX)))
  refine wpQuiet_nil ?_
  intro _ hw'
  obtain ⟨⟨dq, osq⟩, hw''⟩ := hw'
  subst hw''
  have HB2 := HB1.out.trans ((below_regrown w1 dq osq).mono HB1.out.size)
  go_wp2
  go_ret2
  exact ⟨rfl, HB2⟩
set_option maxRecDepth 100000 in
set_option maxHeartbeats 4000000 in
theorem nil_at (tm tc : Int) (w : World) :
    Calls Try.prog 21 #[.pointer none, .agg #[.int .i64 tm, .int .i64 tc]] w fun e w' => e = .returned (.tuple #[verV 0 0 0 none 0 0 false 0, .bool false]) ∧ Below w.heap.size w w' := by
  have HB0 : Below w.heap.size w ((w.alloc (.cells #[.int .i64 tm, .int .i64 tc] 25)).alloc (verO 0 0 0 none 0 0 false 0)) := by (repeat' (first | (with_reducible exact Below.refl _ _) | (with_reducible assumption) | (with_reducible refine Below.trans ?_ (Below.mono (by with_reducible assumption) ?_)) | (with_reducible refine Below.alloc ?_ ?_ _) | (with_reducible refine Below.setCell ?_ ?_ _) | (with_reducible refine below_drewN ?_ _) | (with_reducible refine Below.drew ?_) | go_size))
  have HU := Lib.hid (fun W => nil_up tm tc W)
  go_enter Try.func21, Try.ntmps21
  go_wp2_with (go_at_call 41; refine (HU.out _).mono ?_; rintro e w1 ⟨rfl, hb1⟩; have r0 : w1.cell? ⟨w.heap.size + 1, 0, none⟩ = some (.int .i64 0) := (hb1.cell (p := ⟨w.heap.size + 1, 0, none⟩) (by simp)).trans (by simp); have r1 : w1.cell? ⟨w.heap.size + 1, 1, none⟩ = some (.int .i64 0) := (hb1.cell (p := ⟨w.heap.size + 1, 1, none⟩) (by simp)).trans (by simp); have r2 : w1.cell? ⟨w.heap.size + 1, 2, none⟩ = some (.int .i64 0) := (hb1.cell (p := ⟨w.heap.size + 1, 2, none⟩) (by simp)).trans (by simp); have r3 : w1.cell? ⟨w.heap.size + 1, 3, none⟩ = some (.slice none 0 0) := (hb1.cell (p := ⟨w.heap.size + 1, 3, none⟩) (by simp)).trans (by simp); have r4 : w1.cell? ⟨w.heap.size + 1, 4, none⟩ = some (.bool false) := (hb1.cell (p := ⟨w.heap.size + 1, 4, none⟩) (by simp)).trans (by simp); have r5 : w1.cell? ⟨w.heap.size + 1, 5, none⟩ = some (.int .i64 0) := (hb1.cell (p := ⟨w.heap.size + 1, 5, none⟩) (by simp)).trans (by simp); have f0 : ∀ k, w1.frozen? ⟨w.heap.size + 1, k, none⟩ = false := (fun k => (hb1.frozen (p := ⟨w.heap.size + 1, k, none⟩) (by simp)).trans (by simp)); have z1 : w.heap.size + 1 + 1 ≤ w1.heap.size := (by have := hb1.size; simpa using this); have HB1 := Lib.hid (HB0.trans (hb1.mono HB0.size)); clear hb1)
  (try go_wp2)
  have HF : Below w.heap.size w ((((((w1.setCell ⟨w.heap.size + 1, 0, none⟩ (.int .i64 0)).setCell ⟨w.heap.size + 1, 1, none⟩ (.int .i64 0)).setCell ⟨w.heap.size + 1, 2, none⟩ (.int .i64 0)).setCell ⟨w.heap.size + 1, 3, none⟩ (.slice none 0 0)).setCell ⟨w.heap.size + 1, 4, none⟩ (.bool false)).setCell ⟨w.heap.size + 1, 5, none⟩ (.int .i64 0)) := by
    have h0 := HB1.out
    clear HB1
    (repeat' (first | (with_reducible exact Below.refl _ _) | (with_reducible assumption) | (with_reducible refine Below.trans ?_ (Below.mono (by with_reducible assumption) ?_)) | (with_reducible refine Below.alloc ?_ ?_ _) | (with_reducible refine Below.setCell ?_ ?_ _) | (with_reducible refine below_drewN ?_ _) | (with_reducible refine Below.drew ?_) | go_size))
  refine bodyPost_ret (v := .tuple #[verV 0 0 0 none 0 0 false 0, .bool false]) (by simp [results, Try.results21, go_sem, r0, r1, r2, r3, r4, r5]) rfl ⟨rfl, HF⟩
end Go.Proofs.Ytfjnjababehmmaa
