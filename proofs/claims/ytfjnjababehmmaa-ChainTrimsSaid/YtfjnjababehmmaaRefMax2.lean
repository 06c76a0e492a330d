/- The reference's Max of two stamps. -/
import Derived.Test.YtfjnjababehmmaaRef10Cmp
import Derived.Test.YtfjnjababehmmaaBut
import Derived.BigQuiet
import Derived.Lib.QuietBelow
set_option linter.unusedSimpArgs false
set_option linter.unusedVariables false
namespace Go.Proofs.Ytfjnjababehmmaa
open Go.RowKit Go.Sort

def mx2 (f a : Int × Int) : Int × Int := if 0 < cmp2 a.1 a.2 f.1 f.2 then a else f
set_option maxRecDepth 100000 in
set_option maxHeartbeats 8000000 in
theorem ref_max2 (B : Nat) (f0 f1 a0 a1 : Int) (w : World) (h0 : w.cell? ⟨B, 0, none⟩ = some (.int .i64 f0)) (h1 : w.cell? ⟨B, 1, none⟩ = some (.int .i64 f1)) (h2 : w.cell? ⟨B, 2, none⟩ = some (.int .i64 a0)) (h3 : w.cell? ⟨B, 3, none⟩ = some (.int .i64 a1)) :
    Calls Try.prog 30 #[.slice (some ⟨B, 0, none⟩) 2 2] w fun e w' => e = .returned (.agg #[.int .i64 (mx2 (f0, f1) (a0, a1)).1, .int .i64 (mx2 (f0, f1) (a0, a1)).2]) ∧ Below w.heap.size w w' := by
  have lB : B < w.heap.size := block_lt_of_cell h0
  have HC0 := fun W => ref10_compare a0 a1 f0 f1 W
  have HMX : Hid (mx2 (f0, f1) (a0, a1) = if 0 < cmp2 a0 a1 f0 f1 then (a0, a1) else (f0, f1)) := Lib.hid rfl
  have HB0 : Hid (Below w.heap.size w ((w.alloc (.cells #[.int .i64 0, .int .i64 0] 25)).alloc (.cells #[.int .i64 0, .int .i64 0] 25))) := Lib.hid (by (repeat' (first | (with_reducible exact Below.refl _ _) | (with_reducible assumption) | (with_reducible refine Below.trans ?_ (Below.mono (by with_reducible assumption) ?_)) | (with_reducible refine Below.alloc ?_ ?_ _) | (with_reducible refine Below.setCell ?_ ?_ _) | (with_reducible refine below_drewN ?_ _) | (with_reducible refine Below.drew ?_) | go_size)))
  have g0 := (HB0.out.cell (p := ⟨B, 0, none⟩) lB).trans h0
  have g1 := (HB0.out.cell (p := ⟨B, 1, none⟩) lB).trans h1
  have r0 : ((w.alloc (.cells #[.int .i64 0, .int .i64 0] 25)).alloc (.cells #[.int .i64 0, .int .i64 0] 25)).cell? ⟨w.heap.size, 0, none⟩ = some (.int .i64 0) := by simp [World.cell?_alloc_past]
  have r1 : ((w.alloc (.cells #[.int .i64 0, .int .i64 0] 25)).alloc (.cells #[.int .i64 0, .int .i64 0] 25)).cell? ⟨w.heap.size, 1, none⟩ = some (.int .i64 0) := by simp [World.cell?_alloc_past]
  have k0 : ((w.alloc (.cells #[.int .i64 0, .int .i64 0] 25)).alloc (.cells #[.int .i64 0, .int .i64 0] 25)).cell? ⟨w.heap.size + 1, 0, none⟩ = some (.int .i64 0) := by simp
  have k1 : ((w.alloc (.cells #[.int .i64 0, .int .i64 0] 25)).alloc (.cells #[.int .i64 0, .int .i64 0] 25)).cell? ⟨w.heap.size + 1, 1, none⟩ = some (.int .i64 0) := by simp
  have HFZ : Hid (∀ W, Below (w.heap.size + 1 + 1) ((w.alloc (.cells #[.int .i64 0, .int .i64 0] 25)).alloc (.cells #[.int .i64 0, .int .i64 0] 25)) W → (∀ o, W.frozen? ⟨w.heap.size, o, none⟩ = false) ∧ (∀ o, W.frozen? ⟨w.heap.size + 1, o, none⟩ = false)) := Lib.hid (fun W hb => ⟨fun o => (hb.frozen (p := ⟨w.heap.size, o, none⟩) (by simp; omega)).trans (by
      rw [((Below.refl _ (w.alloc (.cells #[.int .i64 0, .int .i64 0] 25))).alloc (Nat.le_refl _) _).frozen (p := ⟨w.heap.size, o, none⟩) (by simp)]
      exact World.frozen?_alloc_at (w := w) _ _ w.heap.size o rfl), fun o => (hb.frozen (p := ⟨w.heap.size + 1, o, none⟩) (by simp)).trans (World.frozen?_alloc_at (w := w.alloc (.cells #[.int .i64 0, .int .i64 0] 25)) _ _ (w.heap.size + 1) o (by simp))⟩)
  have HC := Lib.hid HC0
  have H23 := Lib.hid (And.intro h2 h3)
  have hzz : ((w.alloc (.cells #[.int .i64 0, .int .i64 0] 25)).alloc (.cells #[.int .i64 0, .int .i64 0] 25)).heap.size = w.heap.size + 1 + 1 := by simp
  have HZZ := Lib.hid hzz
  clear HC0 h0 h1 h2 h3 hzz
  go_enter Try.func30, Try.ntmps30
  go_wp2
  refine wp_loop_rounds 3 ?_
  rw [rounds_succ]
  go_wp2_with fail
  obtain ⟨W0, hW0⟩ : ∃ W0, W0 = (w.alloc (.cells #[.int .i64 0, .int .i64 0] 25)).alloc (.cells #[.int .i64 0, .int .i64 0] 25) := ⟨_, rfl⟩
  rw [← hW0] at HB0 g0 g1 r0 r1 k0 k1 HFZ HZZ
  rw [← hW0]
  clear hW0
  refine wp_region_quiet_below (by kernel_rfl) (by kernel_rfl) ?_
  repeat (go_big_quiet_step ((go_at_call 31; exact HX)))
  refine wpQuiet_nil ?_
  intro _ hw'
  obtain ⟨⟨dq, osq⟩, hw''⟩ := hw'
  subst hw''
  have hq := below_regrown W0 dq osq
  have HQ : Hid (Below (w.heap.size + 1 + 1) W0 (grow (redrawn W0 dq) osq)) := Lib.hid (hq.mono (by rw [HZZ.out]; omega))
  have HQ2 := Lib.hid (HB0.out.trans (hq.mono HB0.out.size))
  have c0 := (cell_regrown g0 dq osq)
  have c1 := (cell_regrown g1 dq osq)
  have s0 := (cell_regrown r0 dq osq)
  have s1 := (cell_regrown r1 dq osq)
  have t0 := (cell_regrown k0 dq osq)
  have t1 := (cell_regrown k1 dq osq)
  clear hq g0 g1 r0 r1 k0 k1
  generalize hgw : grow (redrawn W0 dq) osq = W1 at *
  clear hgw
  have f0_1 := (HFZ.out W1 HQ.out).2 0
  have f1_1 := (HFZ.out W1 HQ.out).2 1
  go_wp2
  rw [rounds_succ]
  have d2 : W1.cell? ⟨B, 2, none⟩ = some (.int .i64 a0) := (HQ2.out.cell (p := ⟨B, 2, none⟩) lB).trans H23.out.1
  have d3 : W1.cell? ⟨B, 3, none⟩ = some (.int .i64 a1) := (HQ2.out.cell (p := ⟨B, 3, none⟩) lB).trans H23.out.2
  have nB : B ≠ w.heap.size + 1 := by omega
  have u0 : ((W1.setCell ⟨w.heap.size + 1, 0, none⟩ (.int .i64 f0)).setCell ⟨w.heap.size + 1, 1, none⟩ (.int .i64 f1)).cell? ⟨w.heap.size + 1, 0, none⟩ = some (.int .i64 f0) := (World.cell?_setCell_other _ _ _ _ (by simp)).trans (World.cell?_setCell_same _ _ _ t0)
  have u1 : ((W1.setCell ⟨w.heap.size + 1, 0, none⟩ (.int .i64 f0)).setCell ⟨w.heap.size + 1, 1, none⟩ (.int .i64 f1)).cell? ⟨w.heap.size + 1, 1, none⟩ = some (.int .i64 f1) := World.cell?_setCell_same _ _ _ ((World.cell?_setCell_other _ _ _ _ (by simp)).trans t1)
  have e2 : ((W1.setCell ⟨w.heap.size + 1, 0, none⟩ (.int .i64 f0)).setCell ⟨w.heap.size + 1, 1, none⟩ (.int .i64 f1)).cell? ⟨B, 2, none⟩ = some (.int .i64 a0) := (World.cell?_setCell_other _ _ _ _ (fun e => nB (congrArg Addr.block e).symm)).trans ((World.cell?_setCell_other _ _ _ _ (fun e => nB (congrArg Addr.block e).symm)).trans d2)
  have e3 : ((W1.setCell ⟨w.heap.size + 1, 0, none⟩ (.int .i64 f0)).setCell ⟨w.heap.size + 1, 1, none⟩ (.int .i64 f1)).cell? ⟨B, 3, none⟩ = some (.int .i64 a1) := (World.cell?_setCell_other _ _ _ _ (fun e => nB (congrArg Addr.block e).symm)).trans ((World.cell?_setCell_other _ _ _ _ (fun e => nB (congrArg Addr.block e).symm)).trans d3)
  have v0 : ((W1.setCell ⟨w.heap.size + 1, 0, none⟩ (.int .i64 f0)).setCell ⟨w.heap.size + 1, 1, none⟩ (.int .i64 f1)).cell? ⟨w.heap.size, 0, none⟩ = some (.int .i64 0) := (World.cell?_setCell_other _ _ _ _ (by simp)).trans ((World.cell?_setCell_other _ _ _ _ (by simp)).trans s0)
  have v1 : ((W1.setCell ⟨w.heap.size + 1, 0, none⟩ (.int .i64 f0)).setCell ⟨w.heap.size + 1, 1, none⟩ (.int .i64 f1)).cell? ⟨w.heap.size, 1, none⟩ = some (.int .i64 0) := (World.cell?_setCell_other _ _ _ _ (by simp)).trans ((World.cell?_setCell_other _ _ _ _ (by simp)).trans s1)
  have HB2 : Hid (Below w.heap.size w ((W1.setCell ⟨w.heap.size + 1, 0, none⟩ (.int .i64 f0)).setCell ⟨w.heap.size + 1, 1, none⟩ (.int .i64 f1))) := Lib.hid (by
    have h := HQ2.out
    have hz := HQ.out.size
    rw [HZZ.out] at hz
    (repeat' (first | (with_reducible exact Below.refl _ _) | (with_reducible assumption) | (with_reducible refine Below.trans ?_ (Below.mono (by with_reducible assumption) ?_)) | (with_reducible refine Below.alloc ?_ ?_ _) | (with_reducible refine Below.setCell ?_ ?_ _) | (with_reducible refine below_drewN ?_ _) | (with_reducible refine Below.drew ?_) | go_size)))
  have HZ2 : Hid (∀ W, Below (w.heap.size + 1 + 1) ((W1.setCell ⟨w.heap.size + 1, 0, none⟩ (.int .i64 f0)).setCell ⟨w.heap.size + 1, 1, none⟩ (.int .i64 f1)) W → (∀ o, W.frozen? ⟨w.heap.size, o, none⟩ = false) ∧ (∀ o, W.frozen? ⟨w.heap.size + 1, o, none⟩ = false)) := Lib.hid (fun W hb => by
    have hx := HFZ.out W1 HQ.out
    refine ⟨fun o => (hb.frozen (p := ⟨w.heap.size, o, none⟩) (by simp; omega)).trans ?_, fun o => (hb.frozen (p := ⟨w.heap.size + 1, o, none⟩) (by simp)).trans ?_⟩
    · simpa using hx.1 o
    · simpa using hx.2 o)
  have hz2 : w.heap.size + 1 + 1 ≤ ((W1.setCell ⟨w.heap.size + 1, 0, none⟩ (.int .i64 f0)).setCell ⟨w.heap.size + 1, 1, none⟩ (.int .i64 f1)).heap.size := by have := HQ.out.size; rw [HZZ.out] at this; simpa [World.setCell] using this
  have HZS := Lib.hid hz2
  clear c0 c1 s0 s1 t0 t1 f0_1 f1_1 d2 d3 HQ HQ2 HFZ HZZ hz2 H23
  generalize ((W1.setCell ⟨w.heap.size + 1, 0, none⟩ (.int .i64 f0)).setCell ⟨w.heap.size + 1, 1, none⟩ (.int .i64 f1)) = W2 at *
  by_cases hc : 0 < cmp2 a0 a1 f0 f1
  · have HE : Hid (mx2 (f0, f1) (a0, a1) = (a0, a1)) := Lib.hid (by rw [HMX.out, if_pos hc])
    have hcd : decide (0 < cmp2 a0 a1 f0 f1) = true := by simpa using hc
    have hcon := HC.out
    generalize cmp2 a0 a1 f0 f1 = qv at *
    have AC := Lib.hid fun (d' : Nat) (os : Array Obj) => Calls.regrown_of (hcon (grow (redrawn W2 d') os))
    have ku0 := fun d os => cell_regrown u0 d os
    have ku1 := fun d os => cell_regrown u1 d os
    have ke2 := fun d os => cell_regrown e2 d os
    have ke3 := fun d os => cell_regrown e3 d os
    have kv0 := fun d os => cell_regrown v0 d os
    have kv1 := fun d os => cell_regrown v1 d os
    clear hcon HC HMX hc u0 u1 e2 e3 v0 v1
    go_wp2_with fail
    refine wp_region_quiet_below (by kernel_rfl) (by kernel_rfl) ?_
    repeat (go_big_quiet_step ((go_at_call 31; exact AC.out _ _)))
    refine wpQuiet_nil ?_
    intro _ hw'
    obtain ⟨⟨dq, osq⟩, hw''⟩ := hw'
    subst hw''
    have hq := below_regrown W2 dq osq
    have HB3 := Lib.hid (HB2.out.trans (hq.mono HB2.out.size))
    have hzf := HZ2.out _ (hq.mono HZS.out)
    have x0 := ku0 dq osq
    have x1 := ku1 dq osq
    have x2 := ke2 dq osq
    have x3 := ke3 dq osq
    have y0 := kv0 dq osq
    have y1 := kv1 dq osq
    have z3 : w.heap.size + 1 + 1 ≤ (grow (redrawn W2 dq) osq).heap.size := Nat.le_trans HZS.out hq.size
    clear hq ku0 ku1 ke2 ke3 kv0 kv1 AC
    generalize hgw : grow (redrawn W2 dq) osq = W3 at *
    clear hgw
    have p0 := hzf.2 0
    have p1 := hzf.2 1
    have p2 := hzf.1 0
    have p3 := hzf.1 1
    clear hzf
    go_wp2
    rw [rounds_succ]
    go_wp2
    have HF : Below w.heap.size w ((((W3.setCell ⟨w.heap.size + 1, 0, none⟩ (.int .i64 a0)).setCell ⟨w.heap.size + 1, 1, none⟩ (.int .i64 a1)).setCell ⟨w.heap.size, 0, none⟩ (.int .i64 a0)).setCell ⟨w.heap.size, 1, none⟩ (.int .i64 a1)) := by
      have h := HB3.out
      clear HB3 HB2
      (repeat' (first | (with_reducible exact Below.refl _ _) | (with_reducible assumption) | (with_reducible refine Below.trans ?_ (Below.mono (by with_reducible assumption) ?_)) | (with_reducible refine Below.alloc ?_ ?_ _) | (with_reducible refine Below.setCell ?_ ?_ _) | (with_reducible refine below_drewN ?_ _) | (with_reducible refine Below.drew ?_) | go_size))
    refine bodyPost_ret (v := .agg #[.int .i64 a0, .int .i64 a1]) (by simp [results, Try.results30, go_sem, x0, x1, y0, y1]) rfl ⟨by rw [HE.out], HF⟩
  · have HE : Hid (mx2 (f0, f1) (a0, a1) = (f0, f1)) := Lib.hid (by rw [HMX.out, if_neg hc])
    have hcd : decide (0 < cmp2 a0 a1 f0 f1) = false := by simpa using hc
    have hcon := HC.out
    generalize cmp2 a0 a1 f0 f1 = qv at *
    have AC := Lib.hid fun (d' : Nat) (os : Array Obj) => Calls.regrown_of (hcon (grow (redrawn W2 d') os))
    have ku0 := fun d os => cell_regrown u0 d os
    have ku1 := fun d os => cell_regrown u1 d os
    have ke2 := fun d os => cell_regrown e2 d os
    have ke3 := fun d os => cell_regrown e3 d os
    have kv0 := fun d os => cell_regrown v0 d os
    have kv1 := fun d os => cell_regrown v1 d os
    clear hcon HC HMX hc u0 u1 e2 e3 v0 v1
    go_wp2_with fail
    refine wp_region_quiet_below (by kernel_rfl) (by kernel_rfl) ?_
    repeat (go_big_quiet_step ((go_at_call 31; exact AC.out _ _)))
    refine wpQuiet_nil ?_
    intro _ hw'
    obtain ⟨⟨dq, osq⟩, hw''⟩ := hw'
    subst hw''
    have hq := below_regrown W2 dq osq
    have HB3 := Lib.hid (HB2.out.trans (hq.mono HB2.out.size))
    have hzf := HZ2.out _ (hq.mono HZS.out)
    have x0 := ku0 dq osq
    have x1 := ku1 dq osq
    have y0 := kv0 dq osq
    have y1 := kv1 dq osq
    have z3 : w.heap.size + 1 + 1 ≤ (grow (redrawn W2 dq) osq).heap.size := Nat.le_trans HZS.out hq.size
    clear hq ku0 ku1 ke2 ke3 kv0 kv1 AC
    generalize hgw : grow (redrawn W2 dq) osq = W3 at *
    clear hgw
    have p2 := hzf.1 0
    have p3 := hzf.1 1
    clear hzf
    go_wp2
    rw [rounds_succ]
    go_wp2
    have HF : Below w.heap.size w ((W3.setCell ⟨w.heap.size, 0, none⟩ (.int .i64 f0)).setCell ⟨w.heap.size, 1, none⟩ (.int .i64 f1)) := by
      have h := HB3.out
      clear HB3 HB2
      (repeat' (first | (with_reducible exact Below.refl _ _) | (with_reducible assumption) | (with_reducible refine Below.trans ?_ (Below.mono (by with_reducible assumption) ?_)) | (with_reducible refine Below.alloc ?_ ?_ _) | (with_reducible refine Below.setCell ?_ ?_ _) | (with_reducible refine below_drewN ?_ _) | (with_reducible refine Below.drew ?_) | go_size))
    refine bodyPost_ret (v := .agg #[.int .i64 f0, .int .i64 f1]) (by simp [results, Try.results30, go_sem, x0, x1, y0, y1]) rfl ⟨by rw [HE.out], HF⟩
end Go.Proofs.Ytfjnjababehmmaa
