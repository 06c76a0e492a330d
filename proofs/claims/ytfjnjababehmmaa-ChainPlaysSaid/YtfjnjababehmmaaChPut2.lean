/- A chain: Put, three ways. -/
import Derived.Test.YtfjnjababehmmaaChPut
set_option linter.unusedSimpArgs false
set_option linter.unusedVariables false
namespace Go.Proofs.Ytfjnjababehmmaa
open Go.RowKit Go.Sort

def PutMore (P : Nat → Prop) (b : Nat) (v : Value) (L : List Mv) (m : Mv) (k : Nat) (w w' : World) : Prop :=
  ∃ v' A c, Ch (fun i => P i ∨ (w.heap.size ≤ i ∧ i < w'.heap.size)) w' b v' (L.take k ++ ⟨m.v, A, c⟩ :: L.drop k) ∧ But (FootC b v) w w'
set_option maxHeartbeats 4000000 in
theorem ch_put_no (P : Nat → Prop) (b : Nat) (v : Value) (L : List Mv) (m : Mv) (w : World) (ho : m.v.ok = false) :
    Calls Try.prog 15 #[.pointer (some ⟨b, 0, none⟩), m.val] w fun e w' => e = .returned (.int .i64 1) ∧ Below w.heap.size w w' := by
  obtain ⟨⟨ml, ct, vo, val, gn, tt⟩, A, cc⟩ := m
  have HB0 : Below w.heap.size w (w.alloc (verO ml ct vo A val.length cc gn tt)) := by (repeat' (first | (with_reducible exact Below.refl _ _) | (with_reducible assumption) | (with_reducible refine Below.trans ?_ (Below.mono (by with_reducible assumption) ?_)) | (with_reducible refine Below.alloc ?_ ?_ _) | (with_reducible refine Below.setCell ?_ ?_ _) | (with_reducible refine below_drewN ?_ _) | (with_reducible refine Below.drew ?_) | go_size))
  have HI := Lib.hid (fun W => ch_is ml ct vo A val.length cc gn tt W)
  have HE : Hid (okV ml ct vo val.length gn tt = false) := ho
  clear ho
  go_enter Try.func15, Try.ntmps15
  go_wp2_with (go_at_call 18; refine (HI.out _).mono ?_; rw [HE.out]; rintro e w1 ⟨rfl, hb1⟩)
  have HB1 := HB0.trans (hb1.mono HB0.size)
  (try go_wp2)
  go_ret
  exact ⟨rfl, HB1⟩
set_option maxHeartbeats 4000000 in
theorem ch_put_has (P : Nat → Prop) (b : Nat) (v : Value) (L : List Mv) (m : Mv) (k : Nat) (w : World) (h : Ch P w b v L) (hl : L.length ≤ 1000000) (ho : m.v.ok = true) (hs : StandV L (fun x => cmpV x m.v < 0) k) (ha : HasV L m.v k true) :
    Calls Try.prog 15 #[.pointer (some ⟨b, 0, none⟩), m.val] w fun e w' => e = .returned (.int .i64 8) ∧ Below w.heap.size w w' := by
  obtain ⟨⟨ml, ct, vo, val, gn, tt⟩, A, cc⟩ := m
  have HB0 : Below w.heap.size w (w.alloc (verO ml ct vo A val.length cc gn tt)) := by (repeat' (first | (with_reducible exact Below.refl _ _) | (with_reducible assumption) | (with_reducible refine Below.trans ?_ (Below.mono (by with_reducible assumption) ?_)) | (with_reducible refine Below.alloc ?_ ?_ _) | (with_reducible refine Below.setCell ?_ ?_ _) | (with_reducible refine below_drewN ?_ _) | (with_reducible refine Below.drew ?_) | go_size))
  have HI := Lib.hid (fun W => ch_is ml ct vo A val.length cc gn tt W)
  have HE : Hid (okV ml ct vo val.length gn tt = true) := ho
  have HH := Lib.hid h
  have HFV := Lib.hid (fun W (hr : W.ownsRow 0 28 6 v L.length (rowV L)) => find_v v L ⟨⟨ml, ct, vo, val, gn, tt⟩, A, cc⟩ k true W hr hl hs ha)
  obtain ⟨A0, c0, rfl⟩ := h.shape
  clear ho h hl hs ha
  go_enter Try.func15, Try.ntmps15
  go_wp2_with (go_at_call 18; refine (HI.out _).mono ?_; rw [HE.out]; rintro e w1 ⟨rfl, hb1⟩; have H1 := HH.out.below (HB0.trans (hb1.mono HB0.size)); have HB1 := Lib.hid (HB0.trans (hb1.mono HB0.size)))
  have q0 : w1.cell? ⟨w.heap.size, 0, none⟩ = some (.int .i64 ml) := (hb1.cell (p := ⟨w.heap.size, 0, none⟩) (by simp)).trans (by simp)
  have q1 : w1.cell? ⟨w.heap.size, 1, none⟩ = some (.int .i64 ct) := (hb1.cell (p := ⟨w.heap.size, 1, none⟩) (by simp)).trans (by simp)
  have q2 : w1.cell? ⟨w.heap.size, 2, none⟩ = some (.int .i64 vo) := (hb1.cell (p := ⟨w.heap.size, 2, none⟩) (by simp)).trans (by simp)
  have q3 : w1.cell? ⟨w.heap.size, 3, none⟩ = some (.slice A val.length cc) := (hb1.cell (p := ⟨w.heap.size, 3, none⟩) (by simp)).trans (by simp)
  have q4 : w1.cell? ⟨w.heap.size, 4, none⟩ = some (.bool gn) := (hb1.cell (p := ⟨w.heap.size, 4, none⟩) (by simp)).trans (by simp)
  have q5 : w1.cell? ⟨w.heap.size, 5, none⟩ = some (.int .i64 tt) := (hb1.cell (p := ⟨w.heap.size, 5, none⟩) (by simp)).trans (by simp)
  have p0 := H1.c0
  have hr := H1.row
  have AC := Lib.hid fun (d' : Nat) (os : Array Obj) => Calls.regrown_of (HFV.out (grow (redrawn w1 d') os) (row_below hr (below_regrown w1 d' os)))
  have kq0 := fun d os => cell_regrown q0 d os
  have kq1 := fun d os => cell_regrown q1 d os
  have kq2 := fun d os => cell_regrown q2 d os
  have kq3 := fun d os => cell_regrown q3 d os
  have kq4 := fun d os => cell_regrown q4 d os
  have kq5 := fun d os => cell_regrown q5 d os
  have kp0 := fun d os => cell_regrown p0 d os
  clear q0 q1 q2 q3 q4 q5 p0 hr H1 hb1 HH HFV HI HE
  go_wp2_with fail
  refine wp_region_quiet_below (by kernel_rfl) (by kernel_rfl) ?_
  repeat (go_big_quiet_step ((go_at_call 33; exact AC.out _ _)))
  refine wpQuiet_nil ?_
  intro _ hw'
  obtain ⟨⟨dq, osq⟩, hw''⟩ := hw'
  subst hw''
  have HB2 := HB1.out.trans ((below_regrown w1 dq osq).mono HB1.out.size)
  go_wp2
  go_ret
  exact ⟨rfl, HB2⟩
theorem put_fin {P : Nat → Prop} {b : Nat} {v : Value} {L : List Mv} {m : Mv} {k : Nat} {w V2 V3 : World} {A1 : Option Addr} {c1 B g cap : Nat} (h0 : Ch P w b v L) (h2 : Ch P V2 b v L) (hb : Below w.heap.size w V2)
    (ho : V2.ownsRow B 5 1 (.slice A1 m.v.val.length c1) m.v.val.length (bC m.v.val)) (hB : w.heap.size ≤ B) (hy : isBy m.v.val) (hk : k ≤ L.length)
    (hbut : But (fun k => v.ownBlock = some k) V2 V3) (hat : v.ownBlock = some g ∨ V2.heap.size ≤ g) (hrow : V3.ownsRow 0 28 6 (.slice (some ⟨g, 0, none⟩) (L.length + 1) cap) (L.length + 1) (rowV (L.take k ++ ⟨m.v, A1, c1⟩ :: L.drop k))) :
    PutMore P b v L m k w (V3.setCell ⟨b, 0, none⟩ (.slice (some ⟨g, 0, none⟩) (L.length + 1) cap)) := by
  have hbl := h0.lt
  have hz := hb.size
  have hz3 := hbut.size
  have hvb : ∀ i, v.ownBlock = some i → i < w.heap.size := fun i hi => (World.ownsRow.lt h0.row i hi).2
  have hgb : g ≠ b := fun e => by
    subst e
    rcases hat with q | q
    · exact h0.ne q
    · omega
  have hgl : g < V3.heap.size := (World.ownsRow.lt hrow g rfl).2
  have hlen : (L.take k ++ (⟨m.v, A1, c1⟩ : Mv) :: L.drop k).length = L.length + 1 := by simp; omega
  have hO : But (fun i => i = b) V3 (V3.setCell ⟨b, 0, none⟩ (.slice (some ⟨g, 0, none⟩) (L.length + 1) cap)) := But.of_only ((Only.refl b V3).setB _) rfl
  have hc3 : V3.cell? ⟨b, 0, none⟩ = some v := (hbut.cell b 0 h2.lt h2.ne).trans h2.c0
  obtain ⟨A', c', e, _, hby, hn1, hq1⟩ := own8_shape ho
  injection e with e1 e2 e3
  subst e1 e3
  have hnb : ∀ i, (Value.slice (some ⟨g, 0, none⟩) (L.length + 1) cap).ownBlock = some i → i = g := fun i hi => by simpa [Value.ownBlock] using hi.symm
  refine ⟨_, A1, c1, ⟨World.cell?_setCell_same _ _ _ hc3, by rw [World.frozen?_setCell, hbut.frozen b 0 h2.lt h2.ne]; exact h2.f0, by simpa [World.setCell] using Nat.lt_of_lt_of_le h2.lt hz3, ?_, fun e => hgb (hnb _ e).symm, .inl h0.pb, fun i hi => ?_, fun x hx => ?_⟩, ?_⟩
  · rw [hlen]
    exact hO.row hrow (fun i hi e => hgb ((hnb _ hi).symm.trans e))
  · obtain rfl := hnb _ hi
    rcases hat with q | q
    · exact .inl (h0.pv _ q)
    · exact .inr ⟨by omega, by simpa [World.setCell] using hgl⟩
  · have key : ∀ (x : Mv) (Q : Nat → Prop), x.At Q V2 → (∀ i, i < V2.heap.size → Q i → v.ownBlock ≠ some i ∧ i ≠ b ∧ (P i ∨ w.heap.size ≤ i)) → x.At (fun i => (P i ∨ (w.heap.size ≤ i ∧ i < (V3.setCell ⟨b, 0, none⟩ (.slice (some ⟨g, 0, none⟩) (L.length + 1) cap)).heap.size)) ∧ i ≠ b ∧ (Value.slice (some ⟨g, 0, none⟩) (L.length + 1) cap).ownBlock ≠ some i) (V3.setCell ⟨b, 0, none⟩ (.slice (some ⟨g, 0, none⟩) (L.length + 1) cap)) := fun x Q hx hq => by
      have h1 := hx.mono (Q' := fun i => (v.ownBlock ≠ some i ∧ i ≠ b ∧ (P i ∨ w.heap.size ≤ i)) ∧ i < V2.heap.size) (fun i hi hh => ⟨hq i hi hh, hi⟩)
      have h2 := (h1.but hbut (fun i hi hh => hh.1.1 hi)).but hO (fun i hi hh => hh.1.2.1 hi)
      refine h2.mono (fun i _ hh => ⟨hh.1.2.2.imp_right (fun q => ⟨q, by have := hh.2; simp [World.setCell]; omega⟩), hh.1.2.1, fun e => ?_⟩)
      have eg := hnb _ e
      rcases hat with q | q
      · exact hh.1.1 (eg ▸ q)
      · have := hh.2; omega
    rcases List.mem_append.1 hx with q | q
    · exact key x _ (h2.ats x (List.mem_of_mem_take q)) (fun i _ hq => ⟨hq.2.2, hq.2.1, .inl hq.1⟩)
    · rcases List.mem_cons.1 q with rfl | q
      · refine key _ (fun i => w.heap.size ≤ i) ⟨hby, hn1, fun _ ad had => Nat.le_trans hB (hq1 ad had).1, hy⟩ (fun i hi hq => ⟨fun e => ?_, fun e => ?_, .inr hq⟩)
        · have := hvb _ e; omega
        · omega
      · exact key x _ (h2.ats x (List.mem_of_mem_drop q)) (fun i _ hq => ⟨hq.2.2, hq.2.1, .inl hq.1⟩)
  · exact ((But.of_below (S := FootC b v) (hb.mono (Nat.le_refl _))).trans hbut (fun i _ hi => .inr hi)).trans hO (fun i _ hi => .inl hi)
set_option maxRecDepth 100000 in
set_option maxHeartbeats 8000000 in
theorem ch_put_ok (P : Nat → Prop) (b : Nat) (v : Value) (L : List Mv) (m : Mv) (k : Nat) (w : World) (h : Ch P w b v L) (hl : L.length ≤ 1000000) (ho : m.v.ok = true) (hs : StandV L (fun x => cmpV x m.v < 0) k) (ha : HasV L m.v k false)
    (hp : ByL w m.A m.v.val) (hn : m.A = none → m.v.val.length = 0) (hy : isBy m.v.val) (hvl : m.v.val.length ≤ 100000) :
    Calls Try.prog 15 #[.pointer (some ⟨b, 0, none⟩), m.val] w fun e w' => e = .returned (.int .i64 0) ∧ PutMore P b v L m k w w' := by
  obtain ⟨⟨ml, ct, vo, val, gn, tt⟩, A, cc⟩ := m
  have HB0 : Below w.heap.size w (w.alloc (verO ml ct vo A val.length cc gn tt)) := by (repeat' (first | (with_reducible exact Below.refl _ _) | (with_reducible assumption) | (with_reducible refine Below.trans ?_ (Below.mono (by with_reducible assumption) ?_)) | (with_reducible refine Below.alloc ?_ ?_ _) | (with_reducible refine Below.setCell ?_ ?_ _) | (with_reducible refine below_drewN ?_ _) | (with_reducible refine Below.drew ?_) | go_size))
  have HI := Lib.hid (fun W => ch_is ml ct vo A val.length cc gn tt W)
  have HE : Hid (okV ml ct vo val.length gn tt = true) := ho
  have HH := Lib.hid h
  have HP := Lib.hid hp
  have hkl := hs.le
  have HFV := Lib.hid (fun W (hr : W.ownsRow 0 28 6 v L.length (rowV L)) => find_v v L ⟨⟨ml, ct, vo, val, gn, tt⟩, A, cc⟩ k false W hr hl hs ha)
  have HCP := Lib.hid (fun W (hpw : ByL W A val) => ch_copied ⟨⟨ml, ct, vo, val, gn, tt⟩, A, cc⟩ W hpw hn hvl)
  have HIN := Lib.hid (fun W (vb vc : Nat) (m : Mv) (hr : W.ownsRow 0 28 6 v L.length (rowV L)) (hv : One W vb m) (hvv : v.ownBlock ≠ some vb) => ver_insert v L.length k vb vc L m W hr rfl hl hkl hv hvv)
  obtain ⟨A0, c0, rfl⟩ := h.shape
  clear ho h hs ha hp hn hvl
  go_enter Try.func15, Try.ntmps15
  go_wp2_with (go_at_call 18; refine (HI.out _).mono ?_; rw [HE.out]; rintro e w1 ⟨rfl, hb1⟩; have H1 := HH.out.below (HB0.trans (hb1.mono HB0.size)); have HB1 := Lib.hid (HB0.trans (hb1.mono HB0.size)))
  have q0 : w1.cell? ⟨w.heap.size, 0, none⟩ = some (.int .i64 ml) := (hb1.cell (p := ⟨w.heap.size, 0, none⟩) (by simp)).trans (by simp)
  have q1 : w1.cell? ⟨w.heap.size, 1, none⟩ = some (.int .i64 ct) := (hb1.cell (p := ⟨w.heap.size, 1, none⟩) (by simp)).trans (by simp)
  have q2 : w1.cell? ⟨w.heap.size, 2, none⟩ = some (.int .i64 vo) := (hb1.cell (p := ⟨w.heap.size, 2, none⟩) (by simp)).trans (by simp)
  have q3 : w1.cell? ⟨w.heap.size, 3, none⟩ = some (.slice A val.length cc) := (hb1.cell (p := ⟨w.heap.size, 3, none⟩) (by simp)).trans (by simp)
  have q4 : w1.cell? ⟨w.heap.size, 4, none⟩ = some (.bool gn) := (hb1.cell (p := ⟨w.heap.size, 4, none⟩) (by simp)).trans (by simp)
  have q5 : w1.cell? ⟨w.heap.size, 5, none⟩ = some (.int .i64 tt) := (hb1.cell (p := ⟨w.heap.size, 5, none⟩) (by simp)).trans (by simp)
  have p0 := H1.c0
  have hr := H1.row
  have AC := Lib.hid fun (d' : Nat) (os : Array Obj) => Calls.regrown_of (HFV.out (grow (redrawn w1 d') os) (row_below hr (below_regrown w1 d' os)))
  have kq0 := fun d os => cell_regrown q0 d os
  have kq1 := fun d os => cell_regrown q1 d os
  have kq2 := fun d os => cell_regrown q2 d os
  have kq3 := fun d os => cell_regrown q3 d os
  have kq4 := fun d os => cell_regrown q4 d os
  have kq5 := fun d os => cell_regrown q5 d os
  have kp0 := fun d os => cell_regrown p0 d os
  clear hr hb1 HFV HI HE
  go_wp2_with fail
  refine wp_region_quiet_below (by kernel_rfl) (by kernel_rfl) ?_
  repeat (go_big_quiet_step ((go_at_call 33; exact AC.out _ _)))
  refine wpQuiet_nil ?_
  intro _ hw'
  obtain ⟨⟨dq, osq⟩, hw''⟩ := hw'
  subst hw''
  have HB2 := Lib.hid (HB1.out.trans ((below_regrown w1 dq osq).mono HB1.out.size))
  have q0' := kq0 dq osq
  have q1' := kq1 dq osq
  have q2' := kq2 dq osq
  have q3' := kq3 dq osq
  have q4' := kq4 dq osq
  have q5' := kq5 dq osq
  have p0' := kp0 dq osq
  have lw : w.heap.size < (grow (redrawn w1 dq) osq).heap.size := block_lt_of_cell q0'
  have H2 := Lib.hid (HH.out.below HB2.out)
  clear q0 q1 q2 q3 q4 q5 p0 kq0 kq1 kq2 kq3 kq4 kq5 kp0 H1 HB1 AC
  generalize grow (redrawn w1 dq) osq = w2 at *
  go_wp2_with fail
  have HB3 := Lib.hid (HB2.out.drew)
  have H3 := Lib.hid (H2.out.below (Below.drew (Below.refl _ w2)))
  have HP3 := Lib.hid (HP.out.below HB2.out |>.drew)
  have r0 : w2.drew.cell? ⟨w.heap.size, 0, none⟩ = some (.int .i64 ml) := q0'
  have r1 : w2.drew.cell? ⟨w.heap.size, 1, none⟩ = some (.int .i64 ct) := q1'
  have r2 : w2.drew.cell? ⟨w.heap.size, 2, none⟩ = some (.int .i64 vo) := q2'
  have r3 : w2.drew.cell? ⟨w.heap.size, 3, none⟩ = some (.slice A val.length cc) := q3'
  have r4 : w2.drew.cell? ⟨w.heap.size, 4, none⟩ = some (.bool gn) := q4'
  have r5 : w2.drew.cell? ⟨w.heap.size, 5, none⟩ = some (.int .i64 tt) := q5'
  have p0 : w2.drew.cell? ⟨b, 0, none⟩ = some (.slice A0 L.length c0) := p0'
  have lw3 : w.heap.size < w2.drew.heap.size := lw
  clear HB2 H2 q0' q1' q2' q3' q4' q5' p0' lw HP HB0
  refine wp_region_held_drew (S := fun w' => w'.cell? ⟨w.heap.size, 0, none⟩ = some (.int .i64 ml) ∧ w'.cell? ⟨w.heap.size, 1, none⟩ = some (.int .i64 ct) ∧ w'.cell? ⟨w.heap.size, 2, none⟩ = some (.int .i64 vo) ∧ w'.cell? ⟨w.heap.size, 3, none⟩ = some (.slice A val.length cc) ∧ w'.cell? ⟨w.heap.size, 4, none⟩ = some (.bool gn) ∧ w'.cell? ⟨w.heap.size, 5, none⟩ = some (.int .i64 tt)) (by kernel_rfl) ?_ (fun hHeld => ?_)
  · exact ⟨r0, r1, r2, r3, r4, r5⟩
  generalize w2.drew = V0 at *
  refine wpAnyH_take (i := 0) (v := ?_) rfl (by kernel_rfl) (by kernel_rfl) (by kernel_rfl) (fun _ _ _ h => h) (Or.inl ⟨by rfl, ?_⟩) (by assumption) ?_
  rotate_left
  · intro w' hSw; (try dsimp only at hSw); go_simp; (try with_reducible rfl)
  (try simp only [Act.put, List.setIfInBounds_toArray, List.set_cons_zero, List.set_cons_succ, List.getElem_toArray, List.getElem_cons_succ, List.getElem_cons_zero])
  refine wpAnyH_take (i := 1) (v := ?_) rfl (by kernel_rfl) (by kernel_rfl) (by kernel_rfl) (fun _ _ _ h => h) (Or.inl ⟨by rfl, ?_⟩) (by assumption) ?_
  rotate_left
  · intro w' hSw; (try dsimp only at hSw); go_simp; (try with_reducible rfl)
  (try simp only [Act.put, List.setIfInBounds_toArray, List.set_cons_zero, List.set_cons_succ, List.getElem_toArray, List.getElem_cons_succ, List.getElem_cons_zero])
  refine wpAnyH_take (i := 2) (v := ?_) rfl (by kernel_rfl) (by kernel_rfl) (by kernel_rfl) (fun _ _ _ h => h) (Or.inl ⟨by rfl, ?_⟩) (by assumption) ?_
  rotate_left
  · intro w' hSw; (try dsimp only at hSw); go_simp; (try with_reducible rfl)
  (try simp only [Act.put, List.setIfInBounds_toArray, List.set_cons_zero, List.set_cons_succ, List.getElem_toArray, List.getElem_cons_succ, List.getElem_cons_zero])
  refine wpAnyH_take (i := 3) (v := ?_) rfl (by kernel_rfl) (by kernel_rfl) (by kernel_rfl) (fun _ _ _ h => h) (Or.inl ⟨by rfl, ?_⟩) (by assumption) ?_
  rotate_left
  · intro w' hSw; (try dsimp only at hSw); go_simp; (try with_reducible rfl)
  (try simp only [Act.put, List.setIfInBounds_toArray, List.set_cons_zero, List.set_cons_succ, List.getElem_toArray, List.getElem_cons_succ, List.getElem_cons_zero])
  refine wpAnyH_take (i := 5) (v := ?_) rfl (by kernel_rfl) (by kernel_rfl) (by kernel_rfl) (fun _ _ _ h => h) (Or.inl ⟨by rfl, ?_⟩) (by assumption) ?_
  rotate_left
  · intro w' hSw; (try dsimp only at hSw); go_simp; (try with_reducible rfl)
  (try simp only [Act.put, List.setIfInBounds_toArray, List.set_cons_zero, List.set_cons_succ, List.getElem_toArray, List.getElem_cons_succ, List.getElem_cons_zero])
  refine wpAnyH_take (i := 6) (v := ?_) rfl (by kernel_rfl) (by kernel_rfl) (by kernel_rfl) (fun _ _ _ h => h) (Or.inl ⟨by rfl, ?_⟩) (by assumption) ?_
  rotate_left
  · intro w' hSw; (try dsimp only at hSw); go_simp; (try with_reducible rfl)
  (try simp only [Act.put, List.setIfInBounds_toArray, List.set_cons_zero, List.set_cons_succ, List.getElem_toArray, List.getElem_cons_succ, List.getElem_cons_zero])
  refine wpAnyH_ready (rs := [4, 7]) (by kernel_rfl) (by simp) ?_
  refine AllReadyH.cons rfl (fun K hK => ?_) (AllReadyH.cons rfl (fun K hK => ?_) (AllReadyH.nil))
  · skip
    go_simp
    (try dsimp only)
    refine hK.out _ _ ?_ (fun hHeld => ?_)
    · exact ⟨r0, r1, r2, r3, r4, r5⟩
    clear hK K
    (try simp only [Act.put, List.setIfInBounds_toArray, List.set_cons_zero, List.set_cons_succ, List.getElem_toArray, List.getElem_cons_succ, List.getElem_cons_zero])
    refine wpAnyH_ready (rs := [7]) (by kernel_rfl) (by simp) ?_
    refine AllReadyH.cons rfl (fun K hK => ?_) (AllReadyH.nil)
    go_simp
    (go_at_call 36; refine (HCP.out _ HP3.out).mono ?_; rintro e V1 ⟨A1, k1, rfl, ho1, hb1⟩)
    have r0 : V1.cell? ⟨w.heap.size, 0, none⟩ = some (.int .i64 ml) := (hb1.cell (p := ⟨w.heap.size, 0, none⟩) lw3).trans r0
    have r1 : V1.cell? ⟨w.heap.size, 1, none⟩ = some (.int .i64 ct) := (hb1.cell (p := ⟨w.heap.size, 1, none⟩) lw3).trans r1
    have r2 : V1.cell? ⟨w.heap.size, 2, none⟩ = some (.int .i64 vo) := (hb1.cell (p := ⟨w.heap.size, 2, none⟩) lw3).trans r2
    have r3 : V1.cell? ⟨w.heap.size, 3, none⟩ = some (.slice A val.length cc) := (hb1.cell (p := ⟨w.heap.size, 3, none⟩) lw3).trans r3
    have r4 : V1.cell? ⟨w.heap.size, 4, none⟩ = some (.bool gn) := (hb1.cell (p := ⟨w.heap.size, 4, none⟩) lw3).trans r4
    have r5 : V1.cell? ⟨w.heap.size, 5, none⟩ = some (.int .i64 tt) := (hb1.cell (p := ⟨w.heap.size, 5, none⟩) lw3).trans r5
    have HO1 := Lib.hid (own_base (base' := w.heap.size) HB3.out.size ho1)
    have H3 := Lib.hid (H3.out.below hb1)
    have HB3 := Lib.hid (HB3.out.trans (hb1.mono HB3.out.size))
    have p0 : V1.cell? ⟨b, 0, none⟩ = some (.slice A0 L.length c0) := H3.out.c0
    have lw3 : w.heap.size < V1.heap.size := Nat.lt_of_lt_of_le lw3 hb1.size
    clear hb1 ho1
    (try dsimp only)
    refine hK.out _ _ ?_ (fun hHeld => ?_)
    · exact ⟨r0, r1, r2, r3, r4, r5⟩
    clear hK K
    (try simp only [Act.put, List.setIfInBounds_toArray, List.set_cons_zero, List.set_cons_succ, List.getElem_toArray, List.getElem_cons_succ, List.getElem_cons_zero])
    refine wpAnyH_ready (rs := [8]) (by kernel_rfl) (by simp) ?_
    refine AllReadyH.cons rfl (fun K hK => ?_) (AllReadyH.nil)
    go_simp
    have HONE : Hid (One (V1.alloc (.cells #[.int .i64 ml, .int .i64 ct, .int .i64 vo, .slice A1 val.length k1, .bool gn, .int .i64 tt] 28)) V1.heap.size ⟨⟨ml, ct, vo, val, gn, tt⟩, A1, k1⟩) := Lib.hid (heap_alloc_new V1 _)
    have hba : Below V1.heap.size V1 (V1.alloc (.cells #[.int .i64 ml, .int .i64 ct, .int .i64 vo, .slice A1 val.length k1, .bool gn, .int .i64 tt] 28)) := (Below.refl _ _).alloc (Nat.le_refl _) _
    have r0 : (V1.alloc (.cells #[.int .i64 ml, .int .i64 ct, .int .i64 vo, .slice A1 val.length k1, .bool gn, .int .i64 tt] 28)).cell? ⟨w.heap.size, 0, none⟩ = some (.int .i64 ml) := (hba.cell (p := ⟨w.heap.size, 0, none⟩) lw3).trans r0
    have r1 : (V1.alloc (.cells #[.int .i64 ml, .int .i64 ct, .int .i64 vo, .slice A1 val.length k1, .bool gn, .int .i64 tt] 28)).cell? ⟨w.heap.size, 1, none⟩ = some (.int .i64 ct) := (hba.cell (p := ⟨w.heap.size, 1, none⟩) lw3).trans r1
    have r2 : (V1.alloc (.cells #[.int .i64 ml, .int .i64 ct, .int .i64 vo, .slice A1 val.length k1, .bool gn, .int .i64 tt] 28)).cell? ⟨w.heap.size, 2, none⟩ = some (.int .i64 vo) := (hba.cell (p := ⟨w.heap.size, 2, none⟩) lw3).trans r2
    have r3 : (V1.alloc (.cells #[.int .i64 ml, .int .i64 ct, .int .i64 vo, .slice A1 val.length k1, .bool gn, .int .i64 tt] 28)).cell? ⟨w.heap.size, 3, none⟩ = some (.slice A val.length cc) := (hba.cell (p := ⟨w.heap.size, 3, none⟩) lw3).trans r3
    have r4 : (V1.alloc (.cells #[.int .i64 ml, .int .i64 ct, .int .i64 vo, .slice A1 val.length k1, .bool gn, .int .i64 tt] 28)).cell? ⟨w.heap.size, 4, none⟩ = some (.bool gn) := (hba.cell (p := ⟨w.heap.size, 4, none⟩) lw3).trans r4
    have r5 : (V1.alloc (.cells #[.int .i64 ml, .int .i64 ct, .int .i64 vo, .slice A1 val.length k1, .bool gn, .int .i64 tt] 28)).cell? ⟨w.heap.size, 5, none⟩ = some (.int .i64 tt) := (hba.cell (p := ⟨w.heap.size, 5, none⟩) lw3).trans r5
    have HNB : Hid ((Value.slice A0 L.length c0).ownBlock ≠ some V1.heap.size) := Lib.hid (fun e => by have := (World.ownsRow.lt H3.out.row _ e).2; omega)
    have HO1 := Lib.hid (row_below HO1.out hba)
    have H3 := Lib.hid (H3.out.below hba)
    have HB3 := Lib.hid (HB3.out.trans (hba.mono HB3.out.size))
    have p0 : (V1.alloc (.cells #[.int .i64 ml, .int .i64 ct, .int .i64 vo, .slice A1 val.length k1, .bool gn, .int .i64 tt] 28)).cell? ⟨b, 0, none⟩ = some (.slice A0 L.length c0) := H3.out.c0
    have lw3 : w.heap.size < (V1.alloc (.cells #[.int .i64 ml, .int .i64 ct, .int .i64 vo, .slice A1 val.length k1, .bool gn, .int .i64 tt] 28)).heap.size := Nat.lt_of_lt_of_le lw3 hba.size
    clear hba
    generalize V1.heap.size = vb at *
    generalize V1.alloc (.cells #[.int .i64 ml, .int .i64 ct, .int .i64 vo, .slice A1 val.length k1, .bool gn, .int .i64 tt] 28) = V2 at *
    (try dsimp only)
    refine hK.out _ _ ?_ (fun hHeld => ?_)
    · exact ⟨r0, r1, r2, r3, r4, r5⟩
    clear hK K
    (try simp only [Act.put, List.setIfInBounds_toArray, List.set_cons_zero, List.set_cons_succ, List.getElem_toArray, List.getElem_cons_succ, List.getElem_cons_zero])
    refine wpAnyH_ready (rs := [9]) (by kernel_rfl) (by simp) ?_
    refine AllReadyH.cons rfl (fun K hK => ?_) (AllReadyH.nil)
    go_simp
    (go_at_call 35; refine (HIN.out _ vb 1 ⟨⟨ml, ct, vo, val, gn, tt⟩, A1, k1⟩ H3.out.row HONE.out HNB.out).mono ?_; rintro e V3 ⟨g, cap, rfl, hbut, hat, hrow⟩)
    have nb : ¬ (Value.slice A0 L.length c0).ownBlock = some w.heap.size := fun e => by have := (World.ownsRow.lt HH.out.row _ e).2; omega
    have r0 : V3.cell? ⟨w.heap.size, 0, none⟩ = some (.int .i64 ml) := (hbut.cell _ _ lw3 nb).trans r0
    have r1 : V3.cell? ⟨w.heap.size, 1, none⟩ = some (.int .i64 ct) := (hbut.cell _ _ lw3 nb).trans r1
    have r2 : V3.cell? ⟨w.heap.size, 2, none⟩ = some (.int .i64 vo) := (hbut.cell _ _ lw3 nb).trans r2
    have r3 : V3.cell? ⟨w.heap.size, 3, none⟩ = some (.slice A val.length cc) := (hbut.cell _ _ lw3 nb).trans r3
    have r4 : V3.cell? ⟨w.heap.size, 4, none⟩ = some (.bool gn) := (hbut.cell _ _ lw3 nb).trans r4
    have r5 : V3.cell? ⟨w.heap.size, 5, none⟩ = some (.int .i64 tt) := (hbut.cell _ _ lw3 nb).trans r5
    have p3 : V3.cell? ⟨b, 0, none⟩ = some (.slice A0 L.length c0) := (hbut.cell _ _ H3.out.lt H3.out.ne).trans p0
    have f3 : V3.frozen? ⟨b, 0, none⟩ = false := (hbut.frozen _ _ H3.out.lt H3.out.ne).trans H3.out.f0
    have bw : b ≠ w.heap.size := by have := HH.out.lt; omega
    have HFIN := Lib.hid (put_fin (m := ⟨⟨ml, ct, vo, val, gn, tt⟩, A, cc⟩) HH.out H3.out HB3.out HO1.out (Nat.le_refl _) hy hkl hbut hat hrow)
    clear hbut hat hrow nb
    (try dsimp only)
    refine hK.out _ _ ?_ (fun hHeld => ?_)
    · exact ⟨r0, r1, r2, r3, r4, r5⟩
    clear hK K
    (try simp only [Act.put, List.setIfInBounds_toArray, List.set_cons_zero, List.set_cons_succ, List.getElem_toArray, List.getElem_cons_succ, List.getElem_cons_zero])
    refine wpAnyH_take (i := 10) (v := ?_) rfl (by kernel_rfl) (by kernel_rfl) (by kernel_rfl) (fun _ _ _ h => h) (Or.inl ⟨by rfl, ?_⟩) (by assumption) ?_
    rotate_left
    · intro w' hSw; (try dsimp only at hSw); go_simp; (try with_reducible rfl)
    (try simp only [Act.put, List.setIfInBounds_toArray, List.set_cons_zero, List.set_cons_succ, List.getElem_toArray, List.getElem_cons_succ, List.getElem_cons_zero])
    refine wpAnyH_take (i := 11) (v := ?_) rfl (by kernel_rfl) (by kernel_rfl) (by kernel_rfl) (fun _ _ _ h => h) (Or.inl ⟨by rfl, ?_⟩) (by assumption) ?_
    rotate_left
    · intro w' hSw; (try dsimp only at hSw); go_simp; (try with_reducible rfl)
    (try simp only [Act.put, List.setIfInBounds_toArray, List.set_cons_zero, List.set_cons_succ, List.getElem_toArray, List.getElem_cons_succ, List.getElem_cons_zero])
    refine wpAnyH_ready (rs := [12]) (by kernel_rfl) (by simp) ?_
    refine AllReadyH.cons rfl (fun K hK => ?_) (AllReadyH.nil)
    go_simp
    have hne : ∀ o, (V3.setCell ⟨b, 0, none⟩ (.slice (some ⟨g, 0, none⟩) (L.length + 1) cap)).cell? ⟨w.heap.size, o, none⟩ = V3.cell? ⟨w.heap.size, o, none⟩ := fun o => World.cell?_setCell_other _ _ _ _ (fun e => bw (congrArg Addr.block e))
    (try dsimp only)
    refine hK.out _ _ ?_ (fun hHeld => ?_)
    · exact ⟨(hne 0).trans r0, (hne 1).trans r1, (hne 2).trans r2, (hne 3).trans r3, (hne 4).trans r4, (hne 5).trans r5⟩
    clear hK K
    (try simp only [Act.put, List.setIfInBounds_toArray, List.set_cons_zero, List.set_cons_succ, List.getElem_toArray, List.getElem_cons_succ, List.getElem_cons_zero])
    refine wpAnyH_done (by kernel_rfl) ?_ _
    clear hne
    go_wp2
    go_ret
    exact ⟨rfl, HFIN.out⟩
  · skip
    go_simp
    (go_at_call 36; refine (HCP.out _ HP3.out).mono ?_; rintro e V1 ⟨A1, k1, rfl, ho1, hb1⟩)
    have r0 : V1.cell? ⟨w.heap.size, 0, none⟩ = some (.int .i64 ml) := (hb1.cell (p := ⟨w.heap.size, 0, none⟩) lw3).trans r0
    have r1 : V1.cell? ⟨w.heap.size, 1, none⟩ = some (.int .i64 ct) := (hb1.cell (p := ⟨w.heap.size, 1, none⟩) lw3).trans r1
    have r2 : V1.cell? ⟨w.heap.size, 2, none⟩ = some (.int .i64 vo) := (hb1.cell (p := ⟨w.heap.size, 2, none⟩) lw3).trans r2
    have r3 : V1.cell? ⟨w.heap.size, 3, none⟩ = some (.slice A val.length cc) := (hb1.cell (p := ⟨w.heap.size, 3, none⟩) lw3).trans r3
    have r4 : V1.cell? ⟨w.heap.size, 4, none⟩ = some (.bool gn) := (hb1.cell (p := ⟨w.heap.size, 4, none⟩) lw3).trans r4
    have r5 : V1.cell? ⟨w.heap.size, 5, none⟩ = some (.int .i64 tt) := (hb1.cell (p := ⟨w.heap.size, 5, none⟩) lw3).trans r5
    have HO1 := Lib.hid (own_base (base' := w.heap.size) HB3.out.size ho1)
    have H3 := Lib.hid (H3.out.below hb1)
    have HB3 := Lib.hid (HB3.out.trans (hb1.mono HB3.out.size))
    have p0 : V1.cell? ⟨b, 0, none⟩ = some (.slice A0 L.length c0) := H3.out.c0
    have lw3 : w.heap.size < V1.heap.size := Nat.lt_of_lt_of_le lw3 hb1.size
    clear hb1 ho1
    (try dsimp only)
    refine hK.out _ _ ?_ (fun hHeld => ?_)
    · exact ⟨r0, r1, r2, r3, r4, r5⟩
    clear hK K
    (try simp only [Act.put, List.setIfInBounds_toArray, List.set_cons_zero, List.set_cons_succ, List.getElem_toArray, List.getElem_cons_succ, List.getElem_cons_zero])
    refine wpAnyH_ready (rs := [4, 8]) (by kernel_rfl) (by simp) ?_
    refine AllReadyH.cons rfl (fun K hK => ?_) (AllReadyH.cons rfl (fun K hK => ?_) (AllReadyH.nil))
    · skip
      go_simp
      (try dsimp only)
      refine hK.out _ _ ?_ (fun hHeld => ?_)
      · exact ⟨r0, r1, r2, r3, r4, r5⟩
      clear hK K
      (try simp only [Act.put, List.setIfInBounds_toArray, List.set_cons_zero, List.set_cons_succ, List.getElem_toArray, List.getElem_cons_succ, List.getElem_cons_zero])
      refine wpAnyH_ready (rs := [8]) (by kernel_rfl) (by simp) ?_
      refine AllReadyH.cons rfl (fun K hK => ?_) (AllReadyH.nil)
      go_simp
      have HONE : Hid (One (V1.alloc (.cells #[.int .i64 ml, .int .i64 ct, .int .i64 vo, .slice A1 val.length k1, .bool gn, .int .i64 tt] 28)) V1.heap.size ⟨⟨ml, ct, vo, val, gn, tt⟩, A1, k1⟩) := Lib.hid (heap_alloc_new V1 _)
      have hba : Below V1.heap.size V1 (V1.alloc (.cells #[.int .i64 ml, .int .i64 ct, .int .i64 vo, .slice A1 val.length k1, .bool gn, .int .i64 tt] 28)) := (Below.refl _ _).alloc (Nat.le_refl _) _
      have r0 : (V1.alloc (.cells #[.int .i64 ml, .int .i64 ct, .int .i64 vo, .slice A1 val.length k1, .bool gn, .int .i64 tt] 28)).cell? ⟨w.heap.size, 0, none⟩ = some (.int .i64 ml) := (hba.cell (p := ⟨w.heap.size, 0, none⟩) lw3).trans r0
      have r1 : (V1.alloc (.cells #[.int .i64 ml, .int .i64 ct, .int .i64 vo, .slice A1 val.length k1, .bool gn, .int .i64 tt] 28)).cell? ⟨w.heap.size, 1, none⟩ = some (.int .i64 ct) := (hba.cell (p := ⟨w.heap.size, 1, none⟩) lw3).trans r1
      have r2 : (V1.alloc (.cells #[.int .i64 ml, .int .i64 ct, .int .i64 vo, .slice A1 val.length k1, .bool gn, .int .i64 tt] 28)).cell? ⟨w.heap.size, 2, none⟩ = some (.int .i64 vo) := (hba.cell (p := ⟨w.heap.size, 2, none⟩) lw3).trans r2
      have r3 : (V1.alloc (.cells #[.int .i64 ml, .int .i64 ct, .int .i64 vo, .slice A1 val.length k1, .bool gn, .int .i64 tt] 28)).cell? ⟨w.heap.size, 3, none⟩ = some (.slice A val.length cc) := (hba.cell (p := ⟨w.heap.size, 3, none⟩) lw3).trans r3
      have r4 : (V1.alloc (.cells #[.int .i64 ml, .int .i64 ct, .int .i64 vo, .slice A1 val.length k1, .bool gn, .int .i64 tt] 28)).cell? ⟨w.heap.size, 4, none⟩ = some (.bool gn) := (hba.cell (p := ⟨w.heap.size, 4, none⟩) lw3).trans r4
      have r5 : (V1.alloc (.cells #[.int .i64 ml, .int .i64 ct, .int .i64 vo, .slice A1 val.length k1, .bool gn, .int .i64 tt] 28)).cell? ⟨w.heap.size, 5, none⟩ = some (.int .i64 tt) := (hba.cell (p := ⟨w.heap.size, 5, none⟩) lw3).trans r5
      have HNB : Hid ((Value.slice A0 L.length c0).ownBlock ≠ some V1.heap.size) := Lib.hid (fun e => by have := (World.ownsRow.lt H3.out.row _ e).2; omega)
      have HO1 := Lib.hid (row_below HO1.out hba)
      have H3 := Lib.hid (H3.out.below hba)
      have HB3 := Lib.hid (HB3.out.trans (hba.mono HB3.out.size))
      have p0 : (V1.alloc (.cells #[.int .i64 ml, .int .i64 ct, .int .i64 vo, .slice A1 val.length k1, .bool gn, .int .i64 tt] 28)).cell? ⟨b, 0, none⟩ = some (.slice A0 L.length c0) := H3.out.c0
      have lw3 : w.heap.size < (V1.alloc (.cells #[.int .i64 ml, .int .i64 ct, .int .i64 vo, .slice A1 val.length k1, .bool gn, .int .i64 tt] 28)).heap.size := Nat.lt_of_lt_of_le lw3 hba.size
      clear hba
      generalize V1.heap.size = vb at *
      generalize V1.alloc (.cells #[.int .i64 ml, .int .i64 ct, .int .i64 vo, .slice A1 val.length k1, .bool gn, .int .i64 tt] 28) = V2 at *
      (try dsimp only)
      refine hK.out _ _ ?_ (fun hHeld => ?_)
      · exact ⟨r0, r1, r2, r3, r4, r5⟩
      clear hK K
      (try simp only [Act.put, List.setIfInBounds_toArray, List.set_cons_zero, List.set_cons_succ, List.getElem_toArray, List.getElem_cons_succ, List.getElem_cons_zero])
      refine wpAnyH_ready (rs := [9]) (by kernel_rfl) (by simp) ?_
      refine AllReadyH.cons rfl (fun K hK => ?_) (AllReadyH.nil)
      go_simp
      (go_at_call 35; refine (HIN.out _ vb 1 ⟨⟨ml, ct, vo, val, gn, tt⟩, A1, k1⟩ H3.out.row HONE.out HNB.out).mono ?_; rintro e V3 ⟨g, cap, rfl, hbut, hat, hrow⟩)
      have nb : ¬ (Value.slice A0 L.length c0).ownBlock = some w.heap.size := fun e => by have := (World.ownsRow.lt HH.out.row _ e).2; omega
      have r0 : V3.cell? ⟨w.heap.size, 0, none⟩ = some (.int .i64 ml) := (hbut.cell _ _ lw3 nb).trans r0
      have r1 : V3.cell? ⟨w.heap.size, 1, none⟩ = some (.int .i64 ct) := (hbut.cell _ _ lw3 nb).trans r1
      have r2 : V3.cell? ⟨w.heap.size, 2, none⟩ = some (.int .i64 vo) := (hbut.cell _ _ lw3 nb).trans r2
      have r3 : V3.cell? ⟨w.heap.size, 3, none⟩ = some (.slice A val.length cc) := (hbut.cell _ _ lw3 nb).trans r3
      have r4 : V3.cell? ⟨w.heap.size, 4, none⟩ = some (.bool gn) := (hbut.cell _ _ lw3 nb).trans r4
      have r5 : V3.cell? ⟨w.heap.size, 5, none⟩ = some (.int .i64 tt) := (hbut.cell _ _ lw3 nb).trans r5
      have p3 : V3.cell? ⟨b, 0, none⟩ = some (.slice A0 L.length c0) := (hbut.cell _ _ H3.out.lt H3.out.ne).trans p0
      have f3 : V3.frozen? ⟨b, 0, none⟩ = false := (hbut.frozen _ _ H3.out.lt H3.out.ne).trans H3.out.f0
      have bw : b ≠ w.heap.size := by have := HH.out.lt; omega
      have HFIN := Lib.hid (put_fin (m := ⟨⟨ml, ct, vo, val, gn, tt⟩, A, cc⟩) HH.out H3.out HB3.out HO1.out (Nat.le_refl _) hy hkl hbut hat hrow)
      clear hbut hat hrow nb
      (try dsimp only)
      refine hK.out _ _ ?_ (fun hHeld => ?_)
      · exact ⟨r0, r1, r2, r3, r4, r5⟩
      clear hK K
      (try simp only [Act.put, List.setIfInBounds_toArray, List.set_cons_zero, List.set_cons_succ, List.getElem_toArray, List.getElem_cons_succ, List.getElem_cons_zero])
      refine wpAnyH_take (i := 10) (v := ?_) rfl (by kernel_rfl) (by kernel_rfl) (by kernel_rfl) (fun _ _ _ h => h) (Or.inl ⟨by rfl, ?_⟩) (by assumption) ?_
      rotate_left
      · intro w' hSw; (try dsimp only at hSw); go_simp; (try with_reducible rfl)
      (try simp only [Act.put, List.setIfInBounds_toArray, List.set_cons_zero, List.set_cons_succ, List.getElem_toArray, List.getElem_cons_succ, List.getElem_cons_zero])
      refine wpAnyH_take (i := 11) (v := ?_) rfl (by kernel_rfl) (by kernel_rfl) (by kernel_rfl) (fun _ _ _ h => h) (Or.inl ⟨by rfl, ?_⟩) (by assumption) ?_
      rotate_left
      · intro w' hSw; (try dsimp only at hSw); go_simp; (try with_reducible rfl)
      (try simp only [Act.put, List.setIfInBounds_toArray, List.set_cons_zero, List.set_cons_succ, List.getElem_toArray, List.getElem_cons_succ, List.getElem_cons_zero])
      refine wpAnyH_ready (rs := [12]) (by kernel_rfl) (by simp) ?_
      refine AllReadyH.cons rfl (fun K hK => ?_) (AllReadyH.nil)
      go_simp
      have hne : ∀ o, (V3.setCell ⟨b, 0, none⟩ (.slice (some ⟨g, 0, none⟩) (L.length + 1) cap)).cell? ⟨w.heap.size, o, none⟩ = V3.cell? ⟨w.heap.size, o, none⟩ := fun o => World.cell?_setCell_other _ _ _ _ (fun e => bw (congrArg Addr.block e))
      (try dsimp only)
      refine hK.out _ _ ?_ (fun hHeld => ?_)
      · exact ⟨(hne 0).trans r0, (hne 1).trans r1, (hne 2).trans r2, (hne 3).trans r3, (hne 4).trans r4, (hne 5).trans r5⟩
      clear hK K
      (try simp only [Act.put, List.setIfInBounds_toArray, List.set_cons_zero, List.set_cons_succ, List.getElem_toArray, List.getElem_cons_succ, List.getElem_cons_zero])
      refine wpAnyH_done (by kernel_rfl) ?_ _
      clear hne
      go_wp2
      go_ret
      exact ⟨rfl, HFIN.out⟩
    · skip
      go_simp
      have HONE : Hid (One (V1.alloc (.cells #[.int .i64 ml, .int .i64 ct, .int .i64 vo, .slice A1 val.length k1, .bool gn, .int .i64 tt] 28)) V1.heap.size ⟨⟨ml, ct, vo, val, gn, tt⟩, A1, k1⟩) := Lib.hid (heap_alloc_new V1 _)
      have hba : Below V1.heap.size V1 (V1.alloc (.cells #[.int .i64 ml, .int .i64 ct, .int .i64 vo, .slice A1 val.length k1, .bool gn, .int .i64 tt] 28)) := (Below.refl _ _).alloc (Nat.le_refl _) _
      have r0 : (V1.alloc (.cells #[.int .i64 ml, .int .i64 ct, .int .i64 vo, .slice A1 val.length k1, .bool gn, .int .i64 tt] 28)).cell? ⟨w.heap.size, 0, none⟩ = some (.int .i64 ml) := (hba.cell (p := ⟨w.heap.size, 0, none⟩) lw3).trans r0
      have r1 : (V1.alloc (.cells #[.int .i64 ml, .int .i64 ct, .int .i64 vo, .slice A1 val.length k1, .bool gn, .int .i64 tt] 28)).cell? ⟨w.heap.size, 1, none⟩ = some (.int .i64 ct) := (hba.cell (p := ⟨w.heap.size, 1, none⟩) lw3).trans r1
      have r2 : (V1.alloc (.cells #[.int .i64 ml, .int .i64 ct, .int .i64 vo, .slice A1 val.length k1, .bool gn, .int .i64 tt] 28)).cell? ⟨w.heap.size, 2, none⟩ = some (.int .i64 vo) := (hba.cell (p := ⟨w.heap.size, 2, none⟩) lw3).trans r2
      have r3 : (V1.alloc (.cells #[.int .i64 ml, .int .i64 ct, .int .i64 vo, .slice A1 val.length k1, .bool gn, .int .i64 tt] 28)).cell? ⟨w.heap.size, 3, none⟩ = some (.slice A val.length cc) := (hba.cell (p := ⟨w.heap.size, 3, none⟩) lw3).trans r3
      have r4 : (V1.alloc (.cells #[.int .i64 ml, .int .i64 ct, .int .i64 vo, .slice A1 val.length k1, .bool gn, .int .i64 tt] 28)).cell? ⟨w.heap.size, 4, none⟩ = some (.bool gn) := (hba.cell (p := ⟨w.heap.size, 4, none⟩) lw3).trans r4
      have r5 : (V1.alloc (.cells #[.int .i64 ml, .int .i64 ct, .int .i64 vo, .slice A1 val.length k1, .bool gn, .int .i64 tt] 28)).cell? ⟨w.heap.size, 5, none⟩ = some (.int .i64 tt) := (hba.cell (p := ⟨w.heap.size, 5, none⟩) lw3).trans r5
      have HNB : Hid ((Value.slice A0 L.length c0).ownBlock ≠ some V1.heap.size) := Lib.hid (fun e => by have := (World.ownsRow.lt H3.out.row _ e).2; omega)
      have HO1 := Lib.hid (row_below HO1.out hba)
      have H3 := Lib.hid (H3.out.below hba)
      have HB3 := Lib.hid (HB3.out.trans (hba.mono HB3.out.size))
      have p0 : (V1.alloc (.cells #[.int .i64 ml, .int .i64 ct, .int .i64 vo, .slice A1 val.length k1, .bool gn, .int .i64 tt] 28)).cell? ⟨b, 0, none⟩ = some (.slice A0 L.length c0) := H3.out.c0
      have lw3 : w.heap.size < (V1.alloc (.cells #[.int .i64 ml, .int .i64 ct, .int .i64 vo, .slice A1 val.length k1, .bool gn, .int .i64 tt] 28)).heap.size := Nat.lt_of_lt_of_le lw3 hba.size
      clear hba
      generalize V1.heap.size = vb at *
      generalize V1.alloc (.cells #[.int .i64 ml, .int .i64 ct, .int .i64 vo, .slice A1 val.length k1, .bool gn, .int .i64 tt] 28) = V2 at *
      (try dsimp only)
      refine hK.out _ _ ?_ (fun hHeld => ?_)
      · exact ⟨r0, r1, r2, r3, r4, r5⟩
      clear hK K
      (try simp only [Act.put, List.setIfInBounds_toArray, List.set_cons_zero, List.set_cons_succ, List.getElem_toArray, List.getElem_cons_succ, List.getElem_cons_zero])
      refine wpAnyH_ready (rs := [4]) (by kernel_rfl) (by simp) ?_
      refine AllReadyH.cons rfl (fun K hK => ?_) (AllReadyH.nil)
      go_simp
      (try dsimp only)
      refine hK.out _ _ ?_ (fun hHeld => ?_)
      · exact ⟨r0, r1, r2, r3, r4, r5⟩
      clear hK K
      (try simp only [Act.put, List.setIfInBounds_toArray, List.set_cons_zero, List.set_cons_succ, List.getElem_toArray, List.getElem_cons_succ, List.getElem_cons_zero])
      refine wpAnyH_ready (rs := [9]) (by kernel_rfl) (by simp) ?_
      refine AllReadyH.cons rfl (fun K hK => ?_) (AllReadyH.nil)
      go_simp
      (go_at_call 35; refine (HIN.out _ vb 1 ⟨⟨ml, ct, vo, val, gn, tt⟩, A1, k1⟩ H3.out.row HONE.out HNB.out).mono ?_; rintro e V3 ⟨g, cap, rfl, hbut, hat, hrow⟩)
      have nb : ¬ (Value.slice A0 L.length c0).ownBlock = some w.heap.size := fun e => by have := (World.ownsRow.lt HH.out.row _ e).2; omega
      have r0 : V3.cell? ⟨w.heap.size, 0, none⟩ = some (.int .i64 ml) := (hbut.cell _ _ lw3 nb).trans r0
      have r1 : V3.cell? ⟨w.heap.size, 1, none⟩ = some (.int .i64 ct) := (hbut.cell _ _ lw3 nb).trans r1
      have r2 : V3.cell? ⟨w.heap.size, 2, none⟩ = some (.int .i64 vo) := (hbut.cell _ _ lw3 nb).trans r2
      have r3 : V3.cell? ⟨w.heap.size, 3, none⟩ = some (.slice A val.length cc) := (hbut.cell _ _ lw3 nb).trans r3
      have r4 : V3.cell? ⟨w.heap.size, 4, none⟩ = some (.bool gn) := (hbut.cell _ _ lw3 nb).trans r4
      have r5 : V3.cell? ⟨w.heap.size, 5, none⟩ = some (.int .i64 tt) := (hbut.cell _ _ lw3 nb).trans r5
      have p3 : V3.cell? ⟨b, 0, none⟩ = some (.slice A0 L.length c0) := (hbut.cell _ _ H3.out.lt H3.out.ne).trans p0
      have f3 : V3.frozen? ⟨b, 0, none⟩ = false := (hbut.frozen _ _ H3.out.lt H3.out.ne).trans H3.out.f0
      have bw : b ≠ w.heap.size := by have := HH.out.lt; omega
      have HFIN := Lib.hid (put_fin (m := ⟨⟨ml, ct, vo, val, gn, tt⟩, A, cc⟩) HH.out H3.out HB3.out HO1.out (Nat.le_refl _) hy hkl hbut hat hrow)
      clear hbut hat hrow nb
      (try dsimp only)
      refine hK.out _ _ ?_ (fun hHeld => ?_)
      · exact ⟨r0, r1, r2, r3, r4, r5⟩
      clear hK K
      (try simp only [Act.put, List.setIfInBounds_toArray, List.set_cons_zero, List.set_cons_succ, List.getElem_toArray, List.getElem_cons_succ, List.getElem_cons_zero])
      refine wpAnyH_take (i := 10) (v := ?_) rfl (by kernel_rfl) (by kernel_rfl) (by kernel_rfl) (fun _ _ _ h => h) (Or.inl ⟨by rfl, ?_⟩) (by assumption) ?_
      rotate_left
      · intro w' hSw; (try dsimp only at hSw); go_simp; (try with_reducible rfl)
      (try simp only [Act.put, List.setIfInBounds_toArray, List.set_cons_zero, List.set_cons_succ, List.getElem_toArray, List.getElem_cons_succ, List.getElem_cons_zero])
      refine wpAnyH_take (i := 11) (v := ?_) rfl (by kernel_rfl) (by kernel_rfl) (by kernel_rfl) (fun _ _ _ h => h) (Or.inl ⟨by rfl, ?_⟩) (by assumption) ?_
      rotate_left
      · intro w' hSw; (try dsimp only at hSw); go_simp; (try with_reducible rfl)
      (try simp only [Act.put, List.setIfInBounds_toArray, List.set_cons_zero, List.set_cons_succ, List.getElem_toArray, List.getElem_cons_succ, List.getElem_cons_zero])
      refine wpAnyH_ready (rs := [12]) (by kernel_rfl) (by simp) ?_
      refine AllReadyH.cons rfl (fun K hK => ?_) (AllReadyH.nil)
      go_simp
      have hne : ∀ o, (V3.setCell ⟨b, 0, none⟩ (.slice (some ⟨g, 0, none⟩) (L.length + 1) cap)).cell? ⟨w.heap.size, o, none⟩ = V3.cell? ⟨w.heap.size, o, none⟩ := fun o => World.cell?_setCell_other _ _ _ _ (fun e => bw (congrArg Addr.block e))
      (try dsimp only)
      refine hK.out _ _ ?_ (fun hHeld => ?_)
      · exact ⟨(hne 0).trans r0, (hne 1).trans r1, (hne 2).trans r2, (hne 3).trans r3, (hne 4).trans r4, (hne 5).trans r5⟩
      clear hK K
      (try simp only [Act.put, List.setIfInBounds_toArray, List.set_cons_zero, List.set_cons_succ, List.getElem_toArray, List.getElem_cons_succ, List.getElem_cons_zero])
      refine wpAnyH_done (by kernel_rfl) ?_ _
      clear hne
      go_wp2
      go_ret
      exact ⟨rfl, HFIN.out⟩
end Go.Proofs.Ytfjnjababehmmaa
