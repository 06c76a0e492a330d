/- The reference's Put (written by gen/refput.py). -/
import Derived.Test.YtfjnjababehmmaaChRef
import Derived.Test.YtfjnjababehmmaaChOf
set_option linter.unusedSimpArgs false
set_option linter.unusedVariables false
namespace Go.Proofs.Ytfjnjababehmmaa
open Go.RowKit Go.Sort

set_option maxHeartbeats 4000000 in
theorem ref_put_no (b : Nat) (m : Mv) (w : World) (ho : m.v.ok = false) :
    Calls Try.prog 16 #[.pointer (some ⟨b, 0, none⟩), m.val] w fun e w' => e = .returned (.int .i64 1) ∧ Below w.heap.size w w' := by
  obtain ⟨⟨ml, ct, vo, val, gn, tt⟩, A, cc⟩ := m
  have HB0 : Below w.heap.size w (w.alloc (verO ml ct vo A val.length cc gn tt)) := by (repeat' (first | (with_reducible exact Below.refl _ _) | (with_reducible assumption) | (with_reducible refine Below.trans ?_ (Below.mono (by with_reducible assumption) ?_)) | (with_reducible refine Below.alloc ?_ ?_ _) | (with_reducible refine Below.setCell ?_ ?_ _) | (with_reducible refine below_drewN ?_ _) | (with_reducible refine Below.drew ?_) | go_size))
  have HI := Lib.hid (fun W => ref_version ml ct vo A val.length cc gn tt W)
  have HE : Hid (okV ml ct vo val.length gn tt = false) := ho
  clear ho
  go_enter Try.func16, Try.ntmps16
  go_wp2_with (go_at_call 19; refine (HI.out _).mono ?_; rw [HE.out]; rintro e w1 ⟨rfl, hb1⟩)
  have HB1 := HB0.trans (hb1.mono HB0.size)
  (try go_wp2)
  go_ret
  exact ⟨rfl, HB1⟩
set_option maxRecDepth 100000 in
set_option maxHeartbeats 8000000 in
theorem ref_put_has (P : Nat → Prop) (b : Nat) (v : Value) (L : List Mv) (m : Mv) (k : Nat) (w : World) (h : Ch P w b v L) (hl : L.length ≤ 1000000) (ho : m.v.ok = true) (hs : StandV L (fun x => cmpV x m.v < 0) k) (ha : HasV L m.v k true) :
    Calls Try.prog 16 #[.pointer (some ⟨b, 0, none⟩), m.val] w fun e w' => e = .returned (.int .i64 8) ∧ Below w.heap.size w w' := by
  have hkn : k < L.length := by obtain ⟨x, hx, _⟩ := ha.1 rfl; exact (List.getElem?_eq_some_iff.1 hx).1
  obtain ⟨⟨ml, ct, vo, val, gn, tt⟩, A, cc⟩ := m
  have HB0 : Below w.heap.size w (w.alloc (verO ml ct vo A val.length cc gn tt)) := by (repeat' (first | (with_reducible exact Below.refl _ _) | (with_reducible assumption) | (with_reducible refine Below.trans ?_ (Below.mono (by with_reducible assumption) ?_)) | (with_reducible refine Below.alloc ?_ ?_ _) | (with_reducible refine Below.setCell ?_ ?_ _) | (with_reducible refine below_drewN ?_ _) | (with_reducible refine Below.drew ?_) | go_size))
  have HI := Lib.hid (fun W => ref_version ml ct vo A val.length cc gn tt W)
  have HE : Hid (okV ml ct vo val.length gn tt = true) := ho
  have HH := Lib.hid h
  have HS := Lib.hid hs
  have hkl := hs.le
  obtain ⟨A0, c0, rfl⟩ := h.shape
  have HCV : Hid (∀ x, L[k]? = some x → cmpV x.v ⟨ml, ct, vo, val, gn, tt⟩ = 0) := Lib.hid (fun x hx => by
    obtain ⟨y, hy, he⟩ := ha.1 rfl
    rw [hx] at hy
    injection hy with hy
    subst hy
    exact he)
  clear ha
  clear ho h hs
  go_enter Try.func16, Try.ntmps16
  go_wp2_with (go_at_call 19; refine (HI.out _).mono ?_; rw [HE.out]; rintro e w1 ⟨rfl, hb1⟩; have HB1 := Lib.hid (HB0.trans (hb1.mono HB0.size)))
  have lw : w.heap.size < w1.heap.size := by have := hb1.size; simp at this; omega
  have HZ : Hid (∀ wr, Below w1.heap.size w1 wr → wr.cell? ⟨w.heap.size, 0, none⟩ = some (.int .i64 ml) ∧ wr.cell? ⟨w.heap.size, 1, none⟩ = some (.int .i64 ct) ∧ wr.cell? ⟨w.heap.size, 2, none⟩ = some (.int .i64 vo) ∧ wr.cell? ⟨w.heap.size, 3, none⟩ = some (.slice A val.length cc) ∧ wr.cell? ⟨w.heap.size, 4, none⟩ = some (.bool gn) ∧ wr.cell? ⟨w.heap.size, 5, none⟩ = some (.int .i64 tt)) := Lib.hid (fun wr hb => by
    refine ⟨?_, ?_, ?_, ?_, ?_, ?_⟩ <;> (rw [hb.cell (p := ⟨w.heap.size, _, none⟩) lw, hb1.cell (p := ⟨w.heap.size, _, none⟩) (by simp)]; simp))
  have HF : Hid (∀ wr, Below w1.heap.size w1 wr → Below w.heap.size w wr) := Lib.hid (fun wr hb => HB1.out.trans (hb.mono HB1.out.size))
  have HR1 : Hid (Below w1.heap.size w1 w1) := Lib.hid (Below.refl _ _)
  clear hb1 HI HE HB0
  go_loopw [5] (fun i wr => ∃ q : Nat, i = .int .i64 q ∧ q ≤ k ∧ Below w1.heap.size w1 wr) (fun i _ => k - (intOf i).toNat)
  case atStart => exact ⟨0, rfl, Nat.zero_le _, HR1.out⟩
  case round =>
    obtain ⟨q, rfl, hqk, HB⟩ := hrel
    rcases Nat.lt_or_ge q k with hlt | hge
    · have lq : (q : Int) < (L.length : Int) := by omega
      obtain ⟨x, hx⟩ : ∃ x, L[q]? = some x := ⟨L[q]'(by omega), List.getElem?_eq_getElem _⟩
      obtain ⟨g, cap, e0, _⟩ := row_shape HH.out.row (by omega)
      injection e0 with e1 e2 e3
      subst e1
      have Hr := HH.out.below (HF.out wr HB)
      have c9 := Hr.c0
      obtain ⟨a0, a1, a2, a3, a4, a5⟩ := Hr.ver hx
      obtain ⟨b0, b1, b2, b3, b4, b5⟩ := HZ.out wr HB
      have hneg := HS.out.lo q x hlt hx
      obtain ⟨⟨ml', ct', vo', val', gn', tt'⟩, A', cc'⟩ := x
      have HC0 := fun W => ref_order ml' ct' vo' A' val'.length cc' gn' tt' ml ct vo A val.length cc gn tt W
      obtain ⟨qv, hq⟩ : ∃ qv, qv = or2 (cmp2 ml' ct' ml ct) (cmp1 vo' vo) := ⟨_, rfl⟩
      rw [← hq] at HC0
      have hneg' : qv < 0 := by rw [hq]; exact hneg
      have t1 : decide (qv < 0) = true := by simpa using hneg'
      have tl : decide ((q : Int) < (L.length : Int)) = true := by simpa using lq
      clear hneg hneg' hq hx
      have kc9 := fun d os => cell_regrown c9 d os
      have ka0 := fun d os => cell_regrown a0 d os
      have ka1 := fun d os => cell_regrown a1 d os
      have ka2 := fun d os => cell_regrown a2 d os
      have ka3 := fun d os => cell_regrown a3 d os
      have ka4 := fun d os => cell_regrown a4 d os
      have ka5 := fun d os => cell_regrown a5 d os
      have kb0 := fun d os => cell_regrown b0 d os
      have kb1 := fun d os => cell_regrown b1 d os
      have kb2 := fun d os => cell_regrown b2 d os
      have kb3 := fun d os => cell_regrown b3 d os
      have kb4 := fun d os => cell_regrown b4 d os
      have kb5 := fun d os => cell_regrown b5 d os
      have AC := Lib.hid fun (d' : Nat) (os : Array Obj) => Calls.regrown_of (HC0 (grow (redrawn wr d') os))
      clear c9 a0 a1 a2 a3 a4 a5 b0 b1 b2 b3 b4 b5 HC0 Hr
      go_wp2_with fail
      refine wp_region_quiet_below (by kernel_rfl) (by kernel_rfl) ?_
      repeat (go_big_quiet_step ((go_at_call 37; exact AC.out _ _)))
      refine wpQuiet_nil ?_
      intro _ hw'
      obtain ⟨⟨dq, osq⟩, hw''⟩ := hw'
      subst hw''
      have HBN := Lib.hid (HB.trans ((below_regrown wr dq osq).mono HB.size))
      go_wp2
      go_roundw
      case rel => exact ⟨q + 1, by go_num, by omega, HBN.out⟩
      case measure => simp [intOf]; omega
    · obtain rfl : q = k := by omega
      have lq : (q : Int) < (L.length : Int) := by omega
      obtain ⟨x, hx⟩ : ∃ x, L[q]? = some x := ⟨L[q]'(by omega), List.getElem?_eq_getElem _⟩
      obtain ⟨g, cap, e0, _⟩ := row_shape HH.out.row (by omega)
      injection e0 with e1 e2 e3
      subst e1
      have Hr := HH.out.below (HF.out wr HB)
      have c9 := Hr.c0
      obtain ⟨a0, a1, a2, a3, a4, a5⟩ := Hr.ver hx
      obtain ⟨b0, b1, b2, b3, b4, b5⟩ := HZ.out wr HB
      obtain ⟨⟨ml', ct', vo', val', gn', tt'⟩, A', cc'⟩ := x
      have HC0 := fun W => ref_order ml' ct' vo' A' val'.length cc' gn' tt' ml ct vo A val.length cc gn tt W
      obtain ⟨qv, hq⟩ : ∃ qv, qv = or2 (cmp2 ml' ct' ml ct) (cmp1 vo' vo) := ⟨_, rfl⟩
      rw [← hq] at HC0
      have hcv := HCV.out _ hx
      have hcv' : qv = 0 := by rw [hq]; exact hcv
      have t1 : decide (qv < 0) = false := by simp only [decide_eq_false_iff_not]; omega
      have t2 : (qv == 0) = true := beq_of hcv'
      have tl : decide ((q : Int) < (L.length : Int)) = true := by simpa using lq
      have HC1 := Lib.hid HC0
      have HXX := Lib.hid hx
      have HBr := Lib.hid HB
      clear hcv hcv' hq hx
      have kc9 := fun d os => cell_regrown c9 d os
      have ka0 := fun d os => cell_regrown a0 d os
      have ka1 := fun d os => cell_regrown a1 d os
      have ka2 := fun d os => cell_regrown a2 d os
      have ka3 := fun d os => cell_regrown a3 d os
      have ka4 := fun d os => cell_regrown a4 d os
      have ka5 := fun d os => cell_regrown a5 d os
      have kb0 := fun d os => cell_regrown b0 d os
      have kb1 := fun d os => cell_regrown b1 d os
      have kb2 := fun d os => cell_regrown b2 d os
      have kb3 := fun d os => cell_regrown b3 d os
      have kb4 := fun d os => cell_regrown b4 d os
      have kb5 := fun d os => cell_regrown b5 d os
      have AC := Lib.hid fun (d' : Nat) (os : Array Obj) => Calls.regrown_of (HC0 (grow (redrawn wr d') os))
      clear c9 a0 a1 a2 a3 a4 a5 b0 b1 b2 b3 b4 b5 HC0 Hr
      go_wp2_with fail
      refine wp_region_quiet_below (by kernel_rfl) (by kernel_rfl) ?_
      repeat (go_big_quiet_step ((go_at_call 37; exact AC.out _ _)))
      refine wpQuiet_nil ?_
      intro _ hw'
      obtain ⟨⟨dq, osq⟩, hw''⟩ := hw'
      subst hw''
      have HBN := HBr.out.trans ((below_regrown wr dq osq).mono HBr.out.size)
      clear AC kc9 ka0 ka1 ka2 ka3 ka4 ka5 kb0 kb1 kb2 kb3 kb4 kb5
      generalize hgw : grow (redrawn wr dq) osq = w3 at *
      clear hgw
      obtain ⟨b0, b1, b2, b3, b4, b5⟩ := HZ.out w3 HBN
      have Hr := HH.out.below (HF.out w3 HBN)
      have c9 := Hr.c0
      obtain ⟨a0, a1, a2, a3, a4, a5⟩ := Hr.ver HXX.out
      have HBn := Lib.hid HBN
      have HC0 := HC1.out
      have kc9 := fun d os => cell_regrown c9 d os
      have ka0 := fun d os => cell_regrown a0 d os
      have ka1 := fun d os => cell_regrown a1 d os
      have ka2 := fun d os => cell_regrown a2 d os
      have ka3 := fun d os => cell_regrown a3 d os
      have ka4 := fun d os => cell_regrown a4 d os
      have ka5 := fun d os => cell_regrown a5 d os
      have kb0 := fun d os => cell_regrown b0 d os
      have kb1 := fun d os => cell_regrown b1 d os
      have kb2 := fun d os => cell_regrown b2 d os
      have kb3 := fun d os => cell_regrown b3 d os
      have kb4 := fun d os => cell_regrown b4 d os
      have kb5 := fun d os => cell_regrown b5 d os
      have AC := Lib.hid fun (d' : Nat) (os : Array Obj) => Calls.regrown_of (HC0 (grow (redrawn w3 d') os))
      clear c9 a0 a1 a2 a3 a4 a5 b0 b1 b2 b3 b4 b5 HC0 Hr HBN
      go_wp2_with fail
      refine wp_region_quiet_below (by kernel_rfl) (by kernel_rfl) ?_
      repeat (go_big_quiet_step ((go_at_call 37; exact AC.out _ _)))
      refine wpQuiet_nil ?_
      intro _ hw'
      obtain ⟨⟨dq, osq⟩, hw''⟩ := hw'
      subst hw''
      have HBM := Lib.hid (HBn.out.trans ((below_regrown w3 dq osq).mono HBn.out.size))
      clear AC kc9 ka0 ka1 ka2 ka3 ka4 ka5 kb0 kb1 kb2 kb3 kb4 kb5
      generalize hgw : grow (redrawn w3 dq) osq = w4 at *
      clear hgw
      have HFF := Lib.hid (HF.out w4 HBM.out)
      go_wp2
      go_ret
      exact ⟨rfl, HFF.out⟩
end Go.Proofs.Ytfjnjababehmmaa
