/- The reference's place: where a stamp stands in a chain (written by gen/refplace.py). -/
import Derived.Test.YtfjnjababehmmaaChRef
import Derived.Test.YtfjnjababehmmaaChOf
import Derived.BigQuiet
import Derived.Lib.QuietBelow
set_option linter.unusedSimpArgs false
set_option linter.unusedVariables false
namespace Go.Proofs.Ytfjnjababehmmaa
open Go.RowKit Go.Sort

set_option maxRecDepth 100000 in
set_option maxHeartbeats 8000000 in
theorem ref_place (P : Nat → Prop) (b : Nat) (v : Value) (L : List Mv) (tm tc : Int) (p : Nat) (w : World) (h : Ch P w b v L) (hl : L.length ≤ 1000000) (hs : StandV L (fun x => cmp2 x.ml x.ct tm tc ≤ 0) p) :
    Calls Try.prog 42 #[.pointer (some ⟨b, 0, none⟩), .agg #[.int .i64 tm, .int .i64 tc]] w fun e w' => e = .returned (.int .i64 ((p : Int) - 1)) ∧ Below w.heap.size w w' := by
  have hb0 : Below w.heap.size w (w.alloc (.cells #[.int .i64 tm, .int .i64 tc] 25)) := (Below.refl _ _).alloc (Nat.le_refl _) _
  have x0 : (w.alloc (.cells #[.int .i64 tm, .int .i64 tc] 25)).cell? ⟨w.heap.size, 0, none⟩ = some (.int .i64 tm) := by simp
  have x1 : (w.alloc (.cells #[.int .i64 tm, .int .i64 tc] 25)).cell? ⟨w.heap.size, 1, none⟩ = some (.int .i64 tc) := by simp
  have HX := Lib.hid (And.intro x0 x1)
  have HB0 := Lib.hid hb0
  have HH := Lib.hid (h.below hb0)
  have HS := Lib.hid hs
  have hpl := hs.le
  obtain ⟨A0, c0, rfl⟩ := h.shape
  have HR0 : Hid (Below (w.alloc (.cells #[.int .i64 tm, .int .i64 tc] 25)).heap.size (w.alloc (.cells #[.int .i64 tm, .int .i64 tc] 25)) (w.alloc (.cells #[.int .i64 tm, .int .i64 tc] 25))) := Lib.hid (Below.refl _ _)
  have hl1 : (L.length : Int) ≤ 1000000 := by omega
  clear h hs hb0 x0 x1
  go_enter Try.func42, Try.ntmps42
  go_wp2_with fail
  generalize hW0 : w.alloc (.cells #[.int .i64 tm, .int .i64 tc] 25) = W0 at *
  clear hW0
  go_loopw [5, 6] (fun s i wr => ∃ q : Nat, q ≤ L.length ∧ i = .int .i64 q ∧ s = .int .i64 (((min q p : Nat) : Int) - 1) ∧ Below W0.heap.size W0 wr) (fun _ i _ => L.length - (intOf i).toNat)
  case atStart => exact ⟨0, Nat.zero_le _, rfl, by simp, HR0.out⟩
  case round =>
    obtain ⟨q, hq, rfl, rfl, hB⟩ := hrel
    have y0 := (hB.cell (p := ⟨w.heap.size, 0, none⟩) (block_lt_of_cell HX.out.1)).trans HX.out.1
    have y1 := (hB.cell (p := ⟨w.heap.size, 1, none⟩) (block_lt_of_cell HX.out.2)).trans HX.out.2
    have Hr := HH.out.below hB
    have cc0 := Hr.c0
    by_cases hlt : q < L.length
    · have lq : (q : Int) < (L.length : Int) := by omega
      have lq1 : decide ((q : Int) < (L.length : Int)) = true := by simpa using lq
      obtain ⟨x, hx⟩ : ∃ x, L[q]? = some x := ⟨L[q]'hlt, List.getElem?_eq_getElem _⟩
      obtain ⟨g, cap, e0, _⟩ := row_shape Hr.row (by omega)
      injection e0 with e1 e2 e3
      subst e1
      obtain ⟨a0, a1, _, _, _, _⟩ := Hr.ver hx
      obtain ⟨⟨ml, ct, vo, vx, gx, tt⟩, Ax, cx⟩ := x
      simp only at a0 a1
      have wq : IntKind.i64.wrap ((q : Int) + 1) = (q : Int) + 1 := IntWalk.i64_in _ (by omega)
      have hcon := fun W => ref10_compare ml ct tm tc W
      have ky0 := fun d os => cell_regrown y0 d os
      have ky1 := fun d os => cell_regrown y1 d os
      have ka0 := fun d os => cell_regrown a0 d os
      have ka1 := fun d os => cell_regrown a1 d os
      have kc := fun d os => cell_regrown cc0 d os
      clear y0 y1 a0 a1 Hr e2 e3
      by_cases hc : cmp2 ml ct tm tc ≤ 0
      · have hcd : decide (cmp2 ml ct tm tc ≤ 0) = true := by simpa using hc
        have HNX : Hid (((min (q + 1) p : Nat) : Int) - 1 = (q : Int)) := Lib.hid ((Nat.lt_or_ge q p).elim (fun h9 => by omega) (fun h9 => absurd hc (HS.out.hi q _ h9 hx)))
        generalize cmp2 ml ct tm tc = qv at *
        have AC := Lib.hid fun (d' : Nat) (os : Array Obj) => Calls.regrown_of (hcon (grow (redrawn wr d') os))
        have HBJ := Lib.hid hB
        have HJL := Lib.hid hlt
        clear hcon hc hx hB hlt hq
        go_wp2_with fail
        refine wp_region_quiet_below (by kernel_rfl) (by kernel_rfl) ?_
        repeat (go_big_quiet_step ((go_at_call 31; exact AC.out _ _)))
        refine wpQuiet_nil ?_
        intro _ hw'
        obtain ⟨⟨dq, osq⟩, hw''⟩ := hw'
        subst hw''
        have hq := below_regrown wr dq osq
        have HB9 := Lib.hid (HBJ.out.trans (hq.mono HBJ.out.size))
        clear hq ky0 ky1 ka0 ka1 kc AC HBJ
        generalize hgw : grow (redrawn wr dq) osq = W9 at *
        clear hgw
        go_wp2
        go_roundw
        case rel => exact ⟨q + 1, by have := HJL.out; omega, by go_num, by rw [HNX.out], HB9.out⟩
        case measure => have := HJL.out; simp [intOf]; omega
      · have hcd : decide (cmp2 ml ct tm tc ≤ 0) = false := by simpa using hc
        have HNX : Hid (min (q + 1) p = min q p) := Lib.hid ((Nat.lt_or_ge q p).elim (fun h9 => absurd (HS.out.lo q _ h9 hx) hc) (fun h9 => by omega))
        generalize cmp2 ml ct tm tc = qv at *
        have AC := Lib.hid fun (d' : Nat) (os : Array Obj) => Calls.regrown_of (hcon (grow (redrawn wr d') os))
        have HBJ := Lib.hid hB
        have HJL := Lib.hid hlt
        clear hcon hc hx hB hlt hq
        go_wp2_with fail
        refine wp_region_quiet_below (by kernel_rfl) (by kernel_rfl) ?_
        repeat (go_big_quiet_step ((go_at_call 31; exact AC.out _ _)))
        refine wpQuiet_nil ?_
        intro _ hw'
        obtain ⟨⟨dq, osq⟩, hw''⟩ := hw'
        subst hw''
        have hq := below_regrown wr dq osq
        have HB9 := Lib.hid (HBJ.out.trans (hq.mono HBJ.out.size))
        clear hq ky0 ky1 ka0 ka1 kc AC HBJ
        generalize hgw : grow (redrawn wr dq) osq = W9 at *
        clear hgw
        go_wp2
        go_roundw
        case rel => exact ⟨q + 1, by have := HJL.out; omega, by go_num, by rw [HNX.out], HB9.out⟩
        case measure => have := HJL.out; simp [intOf]; omega
    · obtain rfl : q = L.length := by omega
      have tk : decide ((L.length : Int) < (L.length : Int)) = false := by simp
      have hmin : min L.length p = p := Nat.min_eq_right hpl
      rw [hmin]
      have HBF := Lib.hid (HB0.out.trans (hB.mono HB0.out.size))
      clear hmin hB hlt hq y0 y1 Hr
      go_wp2
      go_ret
      exact ⟨rfl, HBF.out⟩
end Go.Proofs.Ytfjnjababehmmaa
