/- A chain: Trim. -/
import Derived.Test.YtfjnjababehmmaaChTrim
set_option linter.unusedSimpArgs false
set_option linter.unusedVariables false
namespace Go.Proofs.Ytfjnjababehmmaa
open Go.RowKit Go.Sort

def TrimPost (P : Nat → Prop) (b : Nat) (v : Value) (L : List Mv) (r : Nat) (w w' : World) : Prop := ∃ v', Ch P w' b v' (L.drop r) ∧ But (FootC b v) w w'
theorem trim_fin {P : Nat → Prop} {b g cap r : Nat} {L : List Mv} {w V2 V3 : World} (h2 : Ch P V2 b (.slice (some ⟨g, 0, none⟩) L.length cap) L) (hb : Below w.heap.size w V2) (ho : Only g V2 V3)
    (hrow : V3.ownsRow 0 28 6 (.slice (some ⟨g, 0, none⟩) (L.length - r) cap) (L.length - r) (rowV (L.drop r))) :
    TrimPost P b (.slice (some ⟨g, 0, none⟩) L.length cap) L r w (V3.setCell ⟨b, 0, none⟩ (.slice (some ⟨g, 0, none⟩) (L.length - r) cap)) := by
  have hgb : g ≠ b := fun e => h2.ne (by simp [Value.ownBlock, e])
  have hO : But (fun i => i = b) V3 (V3.setCell ⟨b, 0, none⟩ (.slice (some ⟨g, 0, none⟩) (L.length - r) cap)) := But.of_only ((Only.refl b V3).setB _) rfl
  have hc3 : V3.cell? ⟨b, 0, none⟩ = some (.slice (some ⟨g, 0, none⟩) L.length cap) := (ho.cell b 0 h2.lt (fun e => hgb e.symm)).trans h2.c0
  have hnb : ∀ i, (Value.slice (some ⟨g, 0, none⟩) (L.length - r) cap).ownBlock = some i → i = g := fun i hi => by simpa [Value.ownBlock] using hi.symm
  have hpg : P g := h2.pv g rfl
  have hle : (L.drop r).length = L.length - r := List.length_drop ..
  refine ⟨_, ⟨World.cell?_setCell_same _ _ _ hc3, by rw [World.frozen?_setCell, ho.frozen b 0 h2.lt (fun e => hgb e.symm)]; exact h2.f0, by simpa [World.setCell] using Nat.lt_of_lt_of_le h2.lt ho.size, ?_, fun e => hgb (hnb _ e).symm, h2.pb, fun i hi => (hnb i hi) ▸ hpg, fun x hx => ?_⟩, ?_⟩
  · rw [hle]
    exact hO.row hrow (fun i hi e => hgb ((hnb _ hi).symm.trans e))
  · have h1 := h2.ats x (List.mem_of_mem_drop hx)
    have h3 := (h1.but (S := fun i => i = g) (But.of_only ho rfl) (fun i hi hq => hq.2.2 (by rw [hi]; rfl))).but hO (fun i hi hq => hq.2.1 hi)
    exact h3.mono (fun i _ hq => ⟨hq.1, hq.2.1, fun e => hq.2.2 (by rw [hnb i e]; rfl)⟩)
  · exact ((But.of_below (S := FootC b (.slice (some ⟨g, 0, none⟩) L.length cap)) hb).trans (But.of_only (S := fun i => i = g) ho rfl) (fun i _ hi => .inr (by rw [hi]; rfl))).trans hO (fun i _ hi => .inl hi)
set_option maxHeartbeats 4000000 in
theorem ch_trim_none (P : Nat → Prop) (b : Nat) (v : Value) (L : List Mv) (tm tc : Int) (w : World) (h : Ch P w b v L) (hl : L.length ≤ 1000000) (hs : StandV L (fun x => cmp2 x.ml x.ct tm tc ≤ 0) 0) :
    Calls Try.prog 26 #[.pointer (some ⟨b, 0, none⟩), .agg #[.int .i64 tm, .int .i64 tc]] w fun e w' => e = .returned (.int .i64 0) ∧ Below w.heap.size w w' := by
  have HB0 : Below w.heap.size w (w.alloc (.cells #[.int .i64 tm, .int .i64 tc] 25)) := by (repeat' (first | (with_reducible exact Below.refl _ _) | (with_reducible assumption) | (with_reducible refine Below.trans ?_ (Below.mono (by with_reducible assumption) ?_)) | (with_reducible refine Below.alloc ?_ ?_ _) | (with_reducible refine Below.setCell ?_ ?_ _) | (with_reducible refine below_drewN ?_ _) | (with_reducible refine Below.drew ?_) | go_size))
  have HU := Lib.hid (ch_upTo P b v L tm tc 0 _ (h.below HB0) hl hs)
  clear h hl hs
  go_enter Try.func26, Try.ntmps26
  go_wp2_with (go_at_call 41; refine HU.out.mono ?_; rintro e w1 ⟨rfl, hb1⟩; have HB1 := Lib.hid (HB0.trans (hb1.mono HB0.size)); clear hb1)
  (try go_wp2)
  go_ret
  exact ⟨rfl, HB1.out⟩
set_option maxRecDepth 100000 in
set_option maxHeartbeats 8000000 in
theorem ch_trim (P : Nat → Prop) (b : Nat) (v : Value) (L : List Mv) (tm tc : Int) (k : Nat) (x : Mv) (sb : Bool) (w : World) (h : Ch P w b v L) (hl : L.length ≤ 1000000) (hs : StandV L (fun x => cmp2 x.ml x.ct tm tc ≤ 0) (k + 1)) (hx : L[k]? = some x) (ho : x.v.ok = true) (hw : (Lit.int .i64 tm).wf = true) (hsb : seenB x.v tm tc = sb) :
    Calls Try.prog 26 #[.pointer (some ⟨b, 0, none⟩), .agg #[.int .i64 tm, .int .i64 tc]] w fun e w' => e = .returned (.int .i64 (k + 1 - (if sb then 1 else 0) : Nat)) ∧ TrimPost P b v L (k + 1 - (if sb then 1 else 0)) w w' := by
  have HB0 : Below w.heap.size w (w.alloc (.cells #[.int .i64 tm, .int .i64 tc] 25)) := by (repeat' (first | (with_reducible exact Below.refl _ _) | (with_reducible assumption) | (with_reducible refine Below.trans ?_ (Below.mono (by with_reducible assumption) ?_)) | (with_reducible refine Below.alloc ?_ ?_ _) | (with_reducible refine Below.setCell ?_ ?_ _) | (with_reducible refine below_drewN ?_ _) | (with_reducible refine Below.drew ?_) | go_size))
  have HU := Lib.hid (ch_upTo P b v L tm tc (k + 1) _ (h.below HB0) hl hs)
  have hkl : k < L.length := (List.getElem?_eq_some_iff.1 hx).1
  obtain ⟨g, cap, rfl, hcap1, hcap2, _⟩ := row_shape h.row (by omega)
  have HH := Lib.hid h
  have HX := Lib.hid hx
  obtain ⟨⟨ml, ct, vo, val, gn, tt⟩, A, cc⟩ := x
  have hob : okV ml ct vo val.length gn tt = true := ho
  have hbd : 0 ≤ ml ∧ ml ≤ 281474976710655 ∧ 0 ≤ tt ∧ tt ≤ 281474976710655 := by
    simp [okV, isStB] at hob
    omega
  obtain ⟨m0, m1, t0, t1⟩ := hbd
  have HSN0 := fun W => ch_seen ml ct vo A val.length cc gn tt tm tc val W m0 t0 m1 t1 hw
  have hsb' : seenB ⟨ml, ct, vo, val, gn, tt⟩ tm tc = sb := hsb
  rw [hsb'] at HSN0
  have HSN := Lib.hid HSN0
  have e1 : IntKind.i64.wrap ((k : Int) + 1 - 1) = (k : Int) := by rw [show (k : Int) + 1 - 1 = k from by omega]; exact IntWalk.i64_in _ (by omega)
  have e2 : IntKind.i64.wrap (k : Int) = (k : Int) := IntWalk.i64_in _ (by omega)
  have hk2 : (k : Int) < (L.length : Int) := by omega
  have hk3 : ((k : Int) + 1 == 0) = false := beq_no (by omega)
  have hk4 : ¬ ((k : Int) + 1 = 0) := by omega
  have HD := Lib.hid (fun W (r : Nat) (hr : W.ownsRow 0 28 6 (.slice (some ⟨g, 0, none⟩) L.length cap) L.length (rowV L)) (hn : r ≤ L.length) (n0 : 0 < r) => ver_delete g cap r L W hr hl hn n0)
  have HD0 := Lib.hid (fun W => ver_delete0 g cap L.length W hcap1)
  have HL := Lib.hid hl
  clear h hs hx ho hob hsb hsb' HSN0 m0 m1 t0 t1 hw hl hcap1 hcap2
  go_enter Try.func26, Try.ntmps26
  go_wp2_with (go_at_call 41; refine HU.out.mono ?_; rintro e w1 ⟨rfl, hb1⟩; have hbb := HB0.trans (hb1.mono HB0.size); have H1 := HH.out.below hbb; have c0 := H1.c0; obtain ⟨q0, q1, q2, q3, q4, q5⟩ := H1.ver HX.out; have s0 : w1.cell? ⟨w.heap.size, 0, none⟩ = some (.int .i64 tm) := (hb1.cell (p := ⟨w.heap.size, 0, none⟩) (by simp)).trans (by simp); have s1 : w1.cell? ⟨w.heap.size, 1, none⟩ = some (.int .i64 tc) := (hb1.cell (p := ⟨w.heap.size, 1, none⟩) (by simp)).trans (by simp); have HB1 := Lib.hid hbb; clear hb1 hbb H1)
  have kc0 := fun d os => cell_regrown c0 d os
  have kq0 := fun d os => cell_regrown q0 d os
  have kq1 := fun d os => cell_regrown q1 d os
  have kq2 := fun d os => cell_regrown q2 d os
  have kq3 := fun d os => cell_regrown q3 d os
  have kq4 := fun d os => cell_regrown q4 d os
  have kq5 := fun d os => cell_regrown q5 d os
  have ks0 := fun d os => cell_regrown s0 d os
  have ks1 := fun d os => cell_regrown s1 d os
  have AC := Lib.hid fun (d' : Nat) (os : Array Obj) => Calls.regrown_of (HSN.out (grow (redrawn w1 d') os))
  clear c0 q0 q1 q2 q3 q4 q5 s0 s1 HSN HU HX
  (try go_wp2_with fail)
  refine wp_region_quiet_below (by kernel_rfl) (by kernel_rfl) ?_
  repeat (go_big_quiet_step ((go_at_call 32; exact AC.out _ _)))
  refine wpQuiet_nil ?_
  intro _ hw'
  obtain ⟨⟨dq, osq⟩, hw''⟩ := hw'
  subst hw''
  have HB2 := Lib.hid (HB1.out.trans ((below_regrown w1 dq osq).mono HB1.out.size))
  have c0 := kc0 dq osq
  have H2 := Lib.hid (HH.out.below HB2.out)
  clear kc0 kq0 kq1 kq2 kq3 kq4 kq5 ks0 ks1 AC HB1
  generalize grow (redrawn w1 dq) osq = w2 at *
  have bg : b ≠ g := fun e => H2.out.ne (by simp [Value.ownBlock, e])
  have bl := H2.out.lt
  have fb := H2.out.f0
  cases sb with
  | false =>
    have HD' := Lib.hid (HD.out w2 (k + 1) H2.out.row (by omega) (by omega))
    go_wp2_with (go_at_call 45; refine HD'.out.mono ?_; rintro e w3 ⟨rfl, ho3, hr3⟩; have c3 : w3.cell? ⟨b, 0, none⟩ = some (.slice (some ⟨g, 0, none⟩) L.length cap) := (ho3.cell b 0 bl bg).trans c0; have f3 : w3.frozen? ⟨b, 0, none⟩ = false := (ho3.frozen b 0 bl bg).trans fb; have HF := Lib.hid (trim_fin H2.out HB2.out ho3 hr3); clear ho3 hr3)
    (try go_wp2)
    go_ret
    exact ⟨rfl, HF.out⟩
  | true =>
    by_cases hk0 : k = 0
    · subst hk0
      go_wp2_with (go_at_call 45; refine (HD0.out w2).mono ?_; rintro e w3 ⟨rfl, rfl⟩; have HF := Lib.hid (trim_fin (r := 0) H2.out HB2.out (Only.refl g _) H2.out.row))
      (try go_wp2)
      go_ret
      exact ⟨rfl, HF.out⟩
    · have HD' := Lib.hid (HD.out w2 k H2.out.row (by omega) (by omega))
      go_wp2_with (go_at_call 45; refine HD'.out.mono ?_; rintro e w3 ⟨rfl, ho3, hr3⟩; have c3 : w3.cell? ⟨b, 0, none⟩ = some (.slice (some ⟨g, 0, none⟩) L.length cap) := (ho3.cell b 0 bl bg).trans c0; have f3 : w3.frozen? ⟨b, 0, none⟩ = false := (ho3.frozen b 0 bl bg).trans fb; have HF := Lib.hid (trim_fin H2.out HB2.out ho3 hr3); clear ho3 hr3)
      (try go_wp2)
      go_ret
      exact ⟨rfl, HF.out⟩
end Go.Proofs.Ytfjnjababehmmaa
