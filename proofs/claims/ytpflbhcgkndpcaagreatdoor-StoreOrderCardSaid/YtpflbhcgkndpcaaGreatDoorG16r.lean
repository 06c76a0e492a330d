/- A chain: Get; a nil chain. -/
import Derived.Test.YtpflbhcgkndpcaaGreatDoorChClone
import Derived.Test.YtpflbhcgkndpcaaGreatDoorChCmp
import Derived.Test.YtpflbhcgkndpcaaGreatDoorG16n
/- chain.Seen, the reference's Seen, Order. -/
set_option linter.unusedSimpArgs false
set_option linter.unusedVariables false
namespace Go.Proofs.YtpflbhcgkndpcaaGreatDoor
open Go.RowKit

def seenB (v : Vs) (tm tc : Int) : Bool := decide (cmp2 v.ml v.ct tm tc ≤ 0) && (!v.gone && (decide (v.tt = 0) || decide (tm - v.ml < v.tt)))
theorem cmp2_ml {m c p q : Int} (h : cmp2 m c p q ≤ 0) : m ≤ p := by
  unfold cmp2 or2 cmp1 at h
  (repeat' split at h) <;> omega
set_option maxHeartbeats 4000000 in
theorem ch_seen (ml ct vo : Int) (A : Option Addr) (n c : Nat) (gn : Bool) (tt tm tc : Int) (val : List Int) (w : World) (m0 : 0 ≤ ml) (t0 : 0 ≤ tt) (m1 : ml ≤ 281474976710655) (t1 : tt ≤ 281474976710655) (hw : (Lit.int .i64 tm).wf = true) :
    Calls Tryz.prog 115 #[verV ml ct vo A n c gn tt, .agg #[.int .i64 tm, .int .i64 tc]] w fun e w' => e = .returned (.bool (seenB ⟨ml, ct, vo, val, gn, tt⟩ tm tc)) ∧ Below w.heap.size w w' := by
  have hb : -9223372036854775808 ≤ tm ∧ tm ≤ 9223372036854775807 := by
    simp [Lit.wf, IntKind.min, IntKind.max, IntKind.signed, IntKind.bits] at hw
    omega
  have hud : undef = Value.tuple #[] := rfl
  have HC0 := fun W => hlc_compare ml ct tm tc W
  have hcm : cmp2 ml ct tm tc ≤ 0 → ml ≤ tm := cmp2_ml
  have HE : Hid (seenB ⟨ml, ct, vo, val, gn, tt⟩ tm tc = (decide (cmp2 ml ct tm tc ≤ 0) && (!gn && (decide (tt = 0) || decide (tm - ml < tt))))) := rfl
  generalize cmp2 ml ct tm tc = q at *
  have HC := Lib.hid HC0
  clear HC0 hw
  by_cases hq : q ≤ 0
  · have t2 : decide (0 < q) = false := by simp only [decide_eq_false_iff_not]; omega
    have hle := hcm hq
    cases gn with
    | true =>
      rw [HE.out]
      clear hcm
      go_enter Tryz.func115, Tryz.ntmps115
      go_wp2_with (go_at_call 37; refine (HC.out _).mono ?_; rintro e w1 ⟨rfl, hb1⟩; obtain ⟨hc1, hf1⟩ := bcell hb1; (try simp only [World.size_alloc] at hc1 hf1); have q3 : w1.cell? ⟨w.heap.size, 4, none⟩ = some (.bool true) := (hc1 _ _ (by omega)).trans (by simp); clear hc1 hf1)
      go_ret
      go_light
      exact ⟨by simp, by (repeat' (first | (with_reducible exact Below.refl _ _) | (with_reducible assumption) | (with_reducible refine Below.trans ?_ (Below.mono (by with_reducible assumption) ?_)) | (with_reducible refine Below.alloc ?_ ?_ _) | (with_reducible refine Below.setCell ?_ ?_ _) | (with_reducible refine below_drewN ?_ _) | (with_reducible refine Below.drew ?_) | go_size))⟩
    | false =>
      have e1 : IntKind.u64.wrap tm = tm := (by rw [IntKind.wrap_u64]; omega)
      have e2 : IntKind.u64.wrap ml = ml := (by rw [IntKind.wrap_u64]; omega)
      have e3 : IntKind.u64.wrap (tm - ml) = tm - ml := (by rw [IntKind.wrap_u64]; omega)
      have e4 : IntKind.u64.wrap tt = tt := (by rw [IntKind.wrap_u64]; omega)
      by_cases h0 : tt = 0
      · subst h0
        have HEE : Hid (seenB ⟨ml, ct, vo, val, false, 0⟩ tm tc = true) := Lib.hid (by rw [HE.out]; simp [hq])
        rw [HEE.out]
        clear hcm HE hq
        go_enter Tryz.func115, Tryz.ntmps115
        go_wp2_with (go_at_call 37; refine (HC.out _).mono ?_; rintro e w1 ⟨rfl, hb1⟩; obtain ⟨hc1, hf1⟩ := bcell hb1; (try simp only [World.size_alloc] at hc1 hf1); have q3 : w1.cell? ⟨w.heap.size, 4, none⟩ = some (.bool false) := (hc1 _ _ (by omega)).trans (by simp); have q0 : w1.cell? ⟨w.heap.size, 0, none⟩ = some (.int .i64 ml) := (hc1 _ _ (by omega)).trans (by simp); have q5 : w1.cell? ⟨w.heap.size, 5, none⟩ = some (.int .i64 0) := (hc1 _ _ (by omega)).trans (by simp); have s0 : w1.cell? ⟨w.heap.size + 1, 0, none⟩ = some (.int .i64 tm) := (hc1 _ _ (by omega)).trans (by simp); clear hc1 hf1)
        go_ret
        go_light
        exact ⟨by simp, by (repeat' (first | (with_reducible exact Below.refl _ _) | (with_reducible assumption) | (with_reducible refine Below.trans ?_ (Below.mono (by with_reducible assumption) ?_)) | (with_reducible refine Below.alloc ?_ ?_ _) | (with_reducible refine Below.setCell ?_ ?_ _) | (with_reducible refine below_drewN ?_ _) | (with_reducible refine Below.drew ?_) | go_size))⟩
      · have h0a : (tt == 0) = false := by simpa using h0
        have h0b : decide (0 < tt) = true := by simp; omega
        have HEE : Hid (seenB ⟨ml, ct, vo, val, false, tt⟩ tm tc = decide (tm - ml < tt)) := Lib.hid (by rw [HE.out]; simp [hq, h0])
        rw [HEE.out]
        clear hcm HE hq h0
        go_enter Tryz.func115, Tryz.ntmps115
        go_wp2_with (go_at_call 37; refine (HC.out _).mono ?_; rintro e w1 ⟨rfl, hb1⟩; obtain ⟨hc1, hf1⟩ := bcell hb1; (try simp only [World.size_alloc] at hc1 hf1); have q3 : w1.cell? ⟨w.heap.size, 4, none⟩ = some (.bool false) := (hc1 _ _ (by omega)).trans (by simp); have q0 : w1.cell? ⟨w.heap.size, 0, none⟩ = some (.int .i64 ml) := (hc1 _ _ (by omega)).trans (by simp); have q5 : w1.cell? ⟨w.heap.size, 5, none⟩ = some (.int .i64 tt) := (hc1 _ _ (by omega)).trans (by simp); have s0 : w1.cell? ⟨w.heap.size + 1, 0, none⟩ = some (.int .i64 tm) := (hc1 _ _ (by omega)).trans (by simp); clear hc1 hf1)
        go_ret
        go_light
        exact ⟨by simp, by (repeat' (first | (with_reducible exact Below.refl _ _) | (with_reducible assumption) | (with_reducible refine Below.trans ?_ (Below.mono (by with_reducible assumption) ?_)) | (with_reducible refine Below.alloc ?_ ?_ _) | (with_reducible refine Below.setCell ?_ ?_ _) | (with_reducible refine below_drewN ?_ _) | (with_reducible refine Below.drew ?_) | go_size))⟩
  · have t2 : decide (0 < q) = true := by simp only [decide_eq_true_eq]; omega
    have HEE : Hid (seenB ⟨ml, ct, vo, val, gn, tt⟩ tm tc = false) := Lib.hid (by rw [HE.out]; simp [hq])
    rw [HEE.out]
    clear hcm HE hq
    go_enter Tryz.func115, Tryz.ntmps115
    go_wp2_with (go_at_call 37; refine (HC.out _).mono ?_; rintro e w1 ⟨rfl, hb1⟩)
    go_ret
    go_light
    exact ⟨rfl, by (repeat' (first | (with_reducible exact Below.refl _ _) | (with_reducible assumption) | (with_reducible refine Below.trans ?_ (Below.mono (by with_reducible assumption) ?_)) | (with_reducible refine Below.alloc ?_ ?_ _) | (with_reducible refine Below.setCell ?_ ?_ _) | (with_reducible refine below_drewN ?_ _) | (with_reducible refine Below.drew ?_) | go_size))⟩
end Go.Proofs.YtpflbhcgkndpcaaGreatDoor

/- A chain: At, Get. -/
namespace Go.Proofs.YtpflbhcgkndpcaaGreatDoor
open Go.RowKit Go.Sort

def AtSome (x : Mv) (w w' : World) (e : Ending) : Prop := ∃ A c, e = .returned (.tuple #[Mv.val ⟨x.v, A, c⟩, .bool true]) ∧ w'.ownsRow w.heap.size 5 1 (.slice A x.v.val.length c) x.v.val.length (bC x.v.val) ∧ Below w.heap.size w w'
/-- The version that stands at a place of a chain's row. -/
theorem Ch.ver {P : Nat → Prop} {w : World} {b g c : Nat} {L : List Mv} (h : Ch P w b (.slice (some ⟨g, 0, none⟩) L.length c) L) {k : Nat} {x : Mv} (hk : L[k]? = some x) : w.cell? ⟨g, k * 6, none⟩ = some (.int .i64 x.v.ml) ∧ w.cell? ⟨g, k * 6 + 1, none⟩ = some (.int .i64 x.v.ct) ∧ w.cell? ⟨g, k * 6 + 2, none⟩ = some (.int .i64 x.v.vo) ∧ w.cell? ⟨g, k * 6 + 3, none⟩ = some (.slice x.A x.v.val.length x.c) ∧ w.cell? ⟨g, k * 6 + 4, none⟩ = some (.bool x.v.gone) ∧ w.cell? ⟨g, k * 6 + 5, none⟩ = some (.int .i64 x.v.tt) := row_ver h.row hk
end Go.Proofs.YtpflbhcgkndpcaaGreatDoor

/- A chain: Get; a nil chain. -/
namespace Go.Proofs.YtpflbhcgkndpcaaGreatDoor
open Go.RowKit Go.Sort

def GetSome (x : Mv) (w w' : World) (e : Ending) : Prop := ∃ v, e = .returned (.tuple #[v, .bool true]) ∧ w'.ownsRow w.heap.size 5 1 v x.v.val.length (bC x.v.val) ∧ Below w.heap.size w w'
set_option maxRecDepth 100000 in
set_option maxHeartbeats 4000000 in
theorem ch_get_none (P : Nat → Prop) (b : Nat) (v : Value) (L : List Mv) (tm tc : Int) (w : World) (h : Ch P w b v L) (hl : L.length ≤ 1000000) (hs : StandV L (fun x => cmp2 x.ml x.ct tm tc ≤ 0) 0) :
    Calls Tryz.prog 62 #[.pointer (some ⟨b, 0, none⟩), .agg #[.int .i64 tm, .int .i64 tc]] w fun e w' => e = .returned (.tuple #[.slice none 0 0, .bool false]) ∧ Below w.heap.size w w' := by
  have HB0 : Below w.heap.size w (w.alloc (.cells #[.int .i64 tm, .int .i64 tc] 25)) := by (repeat' (first | (with_reducible exact Below.refl _ _) | (with_reducible assumption) | (with_reducible refine Below.trans ?_ (Below.mono (by with_reducible assumption) ?_)) | (with_reducible refine Below.alloc ?_ ?_ _) | (with_reducible refine Below.setCell ?_ ?_ _) | (with_reducible refine below_drewN ?_ _) | (with_reducible refine Below.drew ?_) | go_size))
  have HU := Lib.hid (ch_upTo P b v L tm tc 0 _ (h.below HB0) hl hs)
  clear h hl hs
  go_enter Tryz.func62, Tryz.ntmps62
  go_wp2_with (go_at_call 114; refine HU.out.mono ?_; rintro e w1 ⟨rfl, hb1⟩; have HB1 := Lib.hid (HB0.trans (hb1.mono HB0.size)); clear hb1)
  refine wp_region_quiet_below (by kernel_rfl) (by kernel_rfl) ?_
  repeat (go_big_quiet_step ((go_at_call 115; exact HX)))
  refine wpQuiet_nil ?_
  intro _ hw'
  obtain ⟨⟨dq, osq⟩, hw''⟩ := hw'
  subst hw''
  have HB2 := HB1.out.trans ((below_regrown w1 dq osq).mono HB1.out.size)
  go_wp2
  go_ret2
  exact ⟨rfl, HB2⟩
set_option maxRecDepth 100000 in
set_option maxHeartbeats 8000000 in
theorem ch_get_unseen (P : Nat → Prop) (b : Nat) (v : Value) (L : List Mv) (tm tc : Int) (k : Nat) (x : Mv) (w : World) (h : Ch P w b v L) (hl : L.length ≤ 1000000) (hs : StandV L (fun x => cmp2 x.ml x.ct tm tc ≤ 0) (k + 1)) (hx : L[k]? = some x) (ho : x.v.ok = true) (hsn : seenB x.v tm tc = false) (hw : (Lit.int .i64 tm).wf = true) :
    Calls Tryz.prog 62 #[.pointer (some ⟨b, 0, none⟩), .agg #[.int .i64 tm, .int .i64 tc]] w fun e w' => e = .returned (.tuple #[.slice none 0 0, .bool false]) ∧ Below w.heap.size w w' := by
  have HB0 : Below w.heap.size w (w.alloc (.cells #[.int .i64 tm, .int .i64 tc] 25)) := by (repeat' (first | (with_reducible exact Below.refl _ _) | (with_reducible assumption) | (with_reducible refine Below.trans ?_ (Below.mono (by with_reducible assumption) ?_)) | (with_reducible refine Below.alloc ?_ ?_ _) | (with_reducible refine Below.setCell ?_ ?_ _) | (with_reducible refine below_drewN ?_ _) | (with_reducible refine Below.drew ?_) | go_size))
  have HU := Lib.hid (ch_upTo P b v L tm tc (k + 1) _ (h.below HB0) hl hs)
  have hkl : k < L.length := (List.getElem?_eq_some_iff.1 hx).1
  obtain ⟨g, cap, rfl, _⟩ := row_shape h.row (by omega)
  have HH := Lib.hid h
  have HX := Lib.hid hx
  have hat := h.ats x (List.mem_of_getElem? hx)
  obtain ⟨⟨ml, ct, vo, val, gn, tt⟩, A, cc⟩ := x
  have hob : okV ml ct vo val.length gn tt = true := ho
  have hbd : 0 ≤ ml ∧ ml ≤ 281474976710655 ∧ 0 ≤ tt ∧ tt ≤ 281474976710655 ∧ val.length ≤ 1024 := by
    simp [okV, isStB] at hob
    omega
  obtain ⟨m0, m1, t0, t1, vl⟩ := hbd
  have HSN0 := fun W => ch_seen ml ct vo A val.length cc gn tt tm tc val W m0 t0 m1 t1 hw
  have HCL := Lib.hid (fun W (hp : ByL W A val) => bytes_clone A val cc W hp hat.n (by omega))
  have HBY := Lib.hid hat.b
  have e1 : IntKind.i64.wrap ((k : Int) + 1 - 1) = (k : Int) := by rw [show (k : Int) + 1 - 1 = k from by omega]; exact IntWalk.i64_in _ (by omega)
  have e2 : IntKind.i64.wrap (k : Int) = (k : Int) := IntWalk.i64_in _ (by omega)
  have hk2 : (k : Int) < (L.length : Int) := by omega
  have hk3 : ((k : Int) + 1 == 0) = false := beq_no (by omega)
  have hk4 : ¬ ((k : Int) + 1 = 0) := by omega
  have hsb : seenB ⟨ml, ct, vo, val, gn, tt⟩ tm tc = false := hsn
  rw [hsb] at HSN0
  have HSN := Lib.hid HSN0
  clear h hs hx ho hob hsb hsn HSN0 hat m0 m1 t0 t1 hw
  go_enter Tryz.func62, Tryz.ntmps62
  go_wp2_with (go_at_call 114; refine HU.out.mono ?_; rintro e w1 ⟨rfl, hb1⟩; have hbb := HB0.trans (hb1.mono HB0.size); have H1 := HH.out.below hbb; have c0 := H1.c0; obtain ⟨q0, q1, q2, q3, q4, q5⟩ := H1.ver HX.out; have s0 : w1.cell? ⟨w.heap.size, 0, none⟩ = some (.int .i64 tm) := (hb1.cell (p := ⟨w.heap.size, 0, none⟩) (by simp)).trans (by simp); have s1 : w1.cell? ⟨w.heap.size, 1, none⟩ = some (.int .i64 tc) := (hb1.cell (p := ⟨w.heap.size, 1, none⟩) (by simp)).trans (by simp); have HB1 := Lib.hid hbb; clear hb1 hbb H1)
  have kc0 := fun d os => cell_regrown c0 d os
  have kq0 := fun d os => cell_regrown q0 d os
  have kq1 := fun d os => cell_regrown q1 d os
  have kq2 := fun d os => cell_regrown q2 d os
  have kq3 := fun d os => cell_regrown q3 d os
  have kq4 := fun d os => cell_regrown q4 d os
  have kq5 := fun d os => cell_regrown q5 d os
  have ks0 := fun d os => cell_regrown s0 d os
  have ks1 := fun d os => cell_regrown s1 d os
  have AC := Lib.hid fun (d' : Nat) (os : Array Obj) => Calls.regrown_of (HSN.out (grow (redrawn w1 d') os))
  clear c0 q0 q1 q2 q3 q4 q5 s0 s1 HSN HU HCL HBY HX HH
  refine wp_region_quiet_below (by kernel_rfl) (by kernel_rfl) ?_
  repeat (go_big_quiet_step ((go_at_call 115; exact AC.out _ _)))
  refine wpQuiet_nil ?_
  intro _ hw'
  obtain ⟨⟨dq, osq⟩, hw''⟩ := hw'
  subst hw''
  have HB2 := HB1.out.trans ((below_regrown w1 dq osq).mono HB1.out.size)
  go_wp2
  go_ret2
  exact ⟨rfl, HB2⟩
set_option maxRecDepth 100000 in
set_option maxHeartbeats 8000000 in
theorem ch_get_seen (P : Nat → Prop) (b : Nat) (v : Value) (L : List Mv) (tm tc : Int) (k : Nat) (x : Mv) (w : World) (h : Ch P w b v L) (hl : L.length ≤ 1000000) (hs : StandV L (fun x => cmp2 x.ml x.ct tm tc ≤ 0) (k + 1)) (hx : L[k]? = some x) (ho : x.v.ok = true) (hsn : seenB x.v tm tc = true) (hw : (Lit.int .i64 tm).wf = true) :
    Calls Tryz.prog 62 #[.pointer (some ⟨b, 0, none⟩), .agg #[.int .i64 tm, .int .i64 tc]] w fun e w' => GetSome x w w' e := by
  have HB0 : Below w.heap.size w (w.alloc (.cells #[.int .i64 tm, .int .i64 tc] 25)) := by (repeat' (first | (with_reducible exact Below.refl _ _) | (with_reducible assumption) | (with_reducible refine Below.trans ?_ (Below.mono (by with_reducible assumption) ?_)) | (with_reducible refine Below.alloc ?_ ?_ _) | (with_reducible refine Below.setCell ?_ ?_ _) | (with_reducible refine below_drewN ?_ _) | (with_reducible refine Below.drew ?_) | go_size))
  have HU := Lib.hid (ch_upTo P b v L tm tc (k + 1) _ (h.below HB0) hl hs)
  have hkl : k < L.length := (List.getElem?_eq_some_iff.1 hx).1
  obtain ⟨g, cap, rfl, _⟩ := row_shape h.row (by omega)
  have HH := Lib.hid h
  have HX := Lib.hid hx
  have hat := h.ats x (List.mem_of_getElem? hx)
  obtain ⟨⟨ml, ct, vo, val, gn, tt⟩, A, cc⟩ := x
  have hob : okV ml ct vo val.length gn tt = true := ho
  have hbd : 0 ≤ ml ∧ ml ≤ 281474976710655 ∧ 0 ≤ tt ∧ tt ≤ 281474976710655 ∧ val.length ≤ 1024 := by
    simp [okV, isStB] at hob
    omega
  obtain ⟨m0, m1, t0, t1, vl⟩ := hbd
  have HSN0 := fun W => ch_seen ml ct vo A val.length cc gn tt tm tc val W m0 t0 m1 t1 hw
  have HCL := Lib.hid (fun W (hp : ByL W A val) => bytes_clone A val cc W hp hat.n (by omega))
  have HBY := Lib.hid hat.b
  have e1 : IntKind.i64.wrap ((k : Int) + 1 - 1) = (k : Int) := by rw [show (k : Int) + 1 - 1 = k from by omega]; exact IntWalk.i64_in _ (by omega)
  have e2 : IntKind.i64.wrap (k : Int) = (k : Int) := IntWalk.i64_in _ (by omega)
  have hk2 : (k : Int) < (L.length : Int) := by omega
  have hk3 : ((k : Int) + 1 == 0) = false := beq_no (by omega)
  have hk4 : ¬ ((k : Int) + 1 = 0) := by omega
  have hsb : seenB ⟨ml, ct, vo, val, gn, tt⟩ tm tc = true := hsn
  rw [hsb] at HSN0
  have HSN := Lib.hid HSN0
  clear h hs hx ho hob hsb hsn HSN0 hat m0 m1 t0 t1 hw
  go_enter Tryz.func62, Tryz.ntmps62
  go_wp2_with (go_at_call 114; refine HU.out.mono ?_; rintro e w1 ⟨rfl, hb1⟩; have hbb := HB0.trans (hb1.mono HB0.size); have H1 := HH.out.below hbb; have c0 := H1.c0; obtain ⟨q0, q1, q2, q3, q4, q5⟩ := H1.ver HX.out; have s0 : w1.cell? ⟨w.heap.size, 0, none⟩ = some (.int .i64 tm) := (hb1.cell (p := ⟨w.heap.size, 0, none⟩) (by simp)).trans (by simp); have s1 : w1.cell? ⟨w.heap.size, 1, none⟩ = some (.int .i64 tc) := (hb1.cell (p := ⟨w.heap.size, 1, none⟩) (by simp)).trans (by simp); have HB1 := Lib.hid hbb; clear hb1 hbb H1)
  have kc0 := fun d os => cell_regrown c0 d os
  have kq0 := fun d os => cell_regrown q0 d os
  have kq1 := fun d os => cell_regrown q1 d os
  have kq2 := fun d os => cell_regrown q2 d os
  have kq3 := fun d os => cell_regrown q3 d os
  have kq4 := fun d os => cell_regrown q4 d os
  have kq5 := fun d os => cell_regrown q5 d os
  have ks0 := fun d os => cell_regrown s0 d os
  have ks1 := fun d os => cell_regrown s1 d os
  have AC := Lib.hid fun (d' : Nat) (os : Array Obj) => Calls.regrown_of (HSN.out (grow (redrawn w1 d') os))
  clear c0 q0 q1 q2 q3 q4 q5 s0 s1 HSN HU HX
  refine wp_region_quiet_below (by kernel_rfl) (by kernel_rfl) ?_
  repeat (go_big_quiet_step ((go_at_call 115; exact AC.out _ _)))
  refine wpQuiet_nil ?_
  intro _ hw'
  obtain ⟨⟨dq, osq⟩, hw''⟩ := hw'
  subst hw''
  have HB2 := Lib.hid (HB1.out.trans ((below_regrown w1 dq osq).mono HB1.out.size))
  have c0 := kc0 dq osq
  have q3 := kq3 dq osq
  have HBY2 := Lib.hid (HBY.out.below HB2.out)
  clear kc0 kq0 kq1 kq2 kq3 kq4 kq5 ks0 ks1 AC HB1 HBY
  generalize grow (redrawn w1 dq) osq = w2 at *
  go_wp2_with (go_at_call 96; refine (HCL.out _ HBY2.out).mono ?_; rintro e w3 ⟨v3, rfl, ho3, hb3⟩; have HB3 := Lib.hid (HB2.out.trans (hb3.mono HB2.out.size)); have HO3 := Lib.hid (own_base HB2.out.size ho3); clear hb3 ho3)
  (try go_wp2)
  go_ret2
  exact ⟨v3, rfl, HO3.out, HB3.out⟩
set_option maxHeartbeats 1000000 in
theorem nil_up (tm tc : Int) (w : World) : Calls Tryz.prog 114 #[.pointer none, .agg #[.int .i64 tm, .int .i64 tc]] w fun e w' => e = .returned (.int .i64 0) ∧ Below w.heap.size w w' := by
  go_enter Tryz.func114, Tryz.ntmps114
  go_wp2
  go_ret
  go_light
  exact ⟨rfl, by (repeat' (first | (with_reducible exact Below.refl _ _) | (with_reducible assumption) | (with_reducible refine Below.trans ?_ (Below.mono (by with_reducible assumption) ?_)) | (with_reducible refine Below.alloc ?_ ?_ _) | (with_reducible refine Below.setCell ?_ ?_ _) | (with_reducible refine below_drewN ?_ _) | (with_reducible refine Below.drew ?_) | go_size))⟩
set_option maxHeartbeats 1000000 in
theorem nil_put (v : Value) (m : Mv) (hv : v = m.val) (w : World) : Calls Tryz.prog 113 #[.pointer none, v] w fun e w' => e = .returned (.int .i64 1) ∧ Below w.heap.size w w' := by
  subst hv
  obtain ⟨⟨ml, ct, vo, val, gn, tt⟩, A, cc⟩ := m
  go_enter Tryz.func113, Tryz.ntmps113
  go_wp2
  go_ret
  go_light
  exact ⟨rfl, by (repeat' (first | (with_reducible exact Below.refl _ _) | (with_reducible assumption) | (with_reducible refine Below.trans ?_ (Below.mono (by with_reducible assumption) ?_)) | (with_reducible refine Below.alloc ?_ ?_ _) | (with_reducible refine Below.setCell ?_ ?_ _) | (with_reducible refine below_drewN ?_ _) | (with_reducible refine Below.drew ?_) | go_size))⟩
set_option maxHeartbeats 1000000 in
theorem nil_all (w : World) : Calls Tryz.prog 91 #[.pointer none] w fun e w' => e = .returned (.slice none 0 0) ∧ w = w' := by
  go_enter Tryz.func91, Tryz.ntmps91
  go_wp2
  go_ret
  exact ⟨rfl, rfl⟩
set_option maxHeartbeats 1000000 in
theorem nil_trim (tm tc : Int) (w : World) : Calls Tryz.prog 68 #[.pointer none, .agg #[.int .i64 tm, .int .i64 tc]] w fun e w' => e = .returned (.int .i64 0) ∧ Below w.heap.size w w' := by
  go_enter Tryz.func68, Tryz.ntmps68
  go_wp2_with (go_at_call 114; refine (nil_up tm tc _).mono ?_; rintro e w1 ⟨rfl, hb1⟩)
  go_ret
  go_light
  exact ⟨rfl, by (repeat' (first | (with_reducible exact Below.refl _ _) | (with_reducible assumption) | (with_reducible refine Below.trans ?_ (Below.mono (by with_reducible assumption) ?_)) | (with_reducible refine Below.alloc ?_ ?_ _) | (with_reducible refine Below.setCell ?_ ?_ _) | (with_reducible refine below_drewN ?_ _) | (with_reducible refine Below.drew ?_) | go_size))⟩
set_option maxHeartbeats 1000000 in
theorem nil_get (tm tc : Int) (w : World) : Calls Tryz.prog 62 #[.pointer none, .agg #[.int .i64 tm, .int .i64 tc]] w fun e w' => e = .returned (.tuple #[.slice none 0 0, .bool false]) ∧ Below w.heap.size w w' := by
  have HB0 : Below w.heap.size w (w.alloc (.cells #[.int .i64 tm, .int .i64 tc] 25)) := by (repeat' (first | (with_reducible exact Below.refl _ _) | (with_reducible assumption) | (with_reducible refine Below.trans ?_ (Below.mono (by with_reducible assumption) ?_)) | (with_reducible refine Below.alloc ?_ ?_ _) | (with_reducible refine Below.setCell ?_ ?_ _) | (with_reducible refine below_drewN ?_ _) | (with_reducible refine Below.drew ?_) | go_size))
  have HU := Lib.hid (fun W => nil_up tm tc W)
  go_enter Tryz.func62, Tryz.ntmps62
  go_wp2_with (go_at_call 114; refine (HU.out _).mono ?_; rintro e w1 ⟨rfl, hb1⟩; have HB1 := Lib.hid (HB0.trans (hb1.mono HB0.size)); clear hb1)
  refine wp_region_quiet_below (by kernel_rfl) (by kernel_rfl) ?_
  repeat (go_big_quiet_step ((go_at_call 115; exact HX)))
  refine wpQuiet_nil ?_
  intro _ hw'
  obtain ⟨⟨dq, osq⟩, hw''⟩ := hw'
  subst hw''
  have HB2 := HB1.out.trans ((below_regrown w1 dq osq).mono HB1.out.size)
  go_wp2
  go_ret2
  exact ⟨rfl, HB2⟩
end Go.Proofs.YtpflbhcgkndpcaaGreatDoor

