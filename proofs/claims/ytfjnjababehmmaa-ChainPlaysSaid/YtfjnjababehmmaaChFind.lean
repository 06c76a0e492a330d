/- Where a version stands in a chain's row: slices.BinarySearchFunc at chain.compare. -/
import Derived.Test.YtfjnjababehmmaaChCmp
import Derived.Test.YtfjnjababehmmaaChClone
import Derived.Deep.LoopGhost
import Derived.BigQuiet
import Derived.Lib.QuietBelow
set_option linter.unusedSimpArgs false
set_option linter.unusedVariables false
namespace Go.Proofs.Ytfjnjababehmmaa
open Go.RowKit Go.Sort

/-- k versions are as p says, the others are not. -/
structure StandV (L : List Mv) (p : Vs → Prop) (k : Nat) : Prop where
  le : k ≤ L.length
  lo : ∀ (j : Nat) x, j < k → L[j]? = some x → p x.v
  hi : ∀ (j : Nat) x, k ≤ j → L[j]? = some x → ¬ p x.v
def HasV (L : List Mv) (v : Vs) (k : Nat) (b : Bool) : Prop := (b = true → ∃ x, L[k]? = some x ∧ cmpV x.v v = 0) ∧ (b = false → ∀ x, L[k]? = some x → 0 < cmpV x.v v)
theorem row_below {w w' : World} {e : TypeId} {base size n : Nat} {v : Value} {xs : List Value} (h : w.ownsRow base e size v n xs) (k : Below w.heap.size w w') : w'.ownsRow base e size v n xs := (But.of_below (S := fun _ => False) k).row h (fun _ _ hf => hf)
theorem first_below {w w' : World} (h : Below w.heap.size w w') : Below w.heap.size w w' := h
set_option maxHeartbeats 4000000 in
set_option maxRecDepth 100000 in
theorem bsearchV (g c n : Nat) (L : List Mv) (m : Mv) (k : Nat) (bb : Bool) (w : World) (h : w.ownsRow 0 28 6 (.slice (some ⟨g, 0, none⟩) n c) n (rowV L)) (hn : L.length = n) (hl : n ≤ 1000000) (hs : StandV L (fun x => cmpV x m.v < 0) k) (ha : HasV L m.v k bb) (n0 : 0 < n) :
    Calls Try.prog 33 #[.slice (some ⟨g, 0, none⟩) n c, m.val, .func (.func 34) #[] #[]] w fun e w' => e = .returned (.tuple #[.int .i64 k, .bool bb]) ∧ Below w.heap.size w w' := by
  obtain ⟨⟨ml, ct, vo, val, gn, tt⟩, A, cc⟩ := m
  have HH := Lib.hid h
  have HS := Lib.hid hs
  have HA := Lib.hid ha
  have HN : Hid (L.length = n) := hn
  have HB0 : Below w.heap.size w (w.alloc (verO ml ct vo A val.length cc gn tt)) := by (repeat' (first | (with_reducible exact Below.refl _ _) | (with_reducible assumption) | (with_reducible refine Below.trans ?_ (Below.mono (by with_reducible assumption) ?_)) | (with_reducible refine Below.alloc ?_ ?_ _) | (with_reducible refine Below.setCell ?_ ?_ _) | (with_reducible refine below_drewN ?_ _) | (with_reducible refine Below.drew ?_) | go_size))
  have z0 : ∀ (wr : World), Below (w.heap.size + 1) (w.alloc (verO ml ct vo A val.length cc gn tt)) wr → wr.cell? ⟨w.heap.size, 0, none⟩ = some (.int .i64 ml) ∧ wr.cell? ⟨w.heap.size, 1, none⟩ = some (.int .i64 ct) ∧ wr.cell? ⟨w.heap.size, 2, none⟩ = some (.int .i64 vo) ∧ wr.cell? ⟨w.heap.size, 3, none⟩ = some (.slice A val.length cc) ∧ wr.cell? ⟨w.heap.size, 4, none⟩ = some (.bool gn) ∧ wr.cell? ⟨w.heap.size, 5, none⟩ = some (.int .i64 tt) := fun wr hb => by
    refine ⟨?_, ?_, ?_, ?_, ?_, ?_⟩ <;> (rw [hb.cell (by simp)]; simp)
  have HZ := Lib.hid z0
  have HB1 : Hid (Below (w.heap.size + 1) (w.alloc (verO ml ct vo A val.length cc gn tt)) (w.alloc (verO ml ct vo A val.length cc gn tt))) := Lib.hid (Below.refl _ _)
  have HF : Hid (∀ wr, Below (w.heap.size + 1) (w.alloc (verO ml ct vo A val.length cc gn tt)) wr → Below w.heap.size w wr ∧ w.heap.size + 1 ≤ wr.heap.size) := Lib.hid (fun wr hb => ⟨HB0.trans (hb.mono (by omega)), by have := hb.size; simpa using this⟩)
  clear h hs ha hn z0 HB0
  go_enter Try.func33, Try.ntmps33
  go_wp2
  go_loopg [9, 10] n (fun kx s9 s10 wr => ∃ lo hi : Nat, s9 = .int .i64 lo ∧ s10 = .int .i64 hi ∧ lo ≤ k ∧ k ≤ hi ∧ hi ≤ n ∧ hi - lo ≤ kx ∧ Below (w.heap.size + 1) (w.alloc (verO ml ct vo A val.length cc gn tt)) wr)
  case atStart => exact ⟨0, n, rfl, rfl, Nat.zero_le _, by have := HS.out.le; rw [HN.out] at this; exact this, Nat.le_refl _, by omega, HB1.out⟩
  case round =>
    obtain ⟨lo, hi, rfl, rfl, h1, h2, h3, hg, HB⟩ := hrel
    clear HB1
    have H1 := Lib.hid (row_below HH.out (HF.out _ HB).1)
    obtain ⟨b0, b1, b2, b3, b4, b5⟩ := HZ.out _ HB
    have zr := (HF.out _ HB).2
    have HBr := Lib.hid HB
    clear HB
    by_cases hlt : lo < hi
    · obtain ⟨x, hx⟩ : ∃ x, L[(lo + hi) / 2]? = some x := ⟨L[(lo + hi) / 2]'(by rw [HN.out]; omega), List.getElem?_eq_getElem _⟩
      obtain ⟨c0, c1, c2, c3, c4, c5⟩ := row_ver H1.out hx
      obtain ⟨⟨ml', ct', vo', val', gn', tt'⟩, A', cc'⟩ := x
      have HC0 := fun W => ch_compare ml' ct' vo' A' val'.length cc' gn' tt' ml ct vo A val.length cc gn tt W
      obtain ⟨q, hq⟩ : ∃ q, q = or2 (cmp2 ml' ct' ml ct) (cmp1 vo' vo) := ⟨_, rfl⟩
      rw [← hq] at HC0
      have HC := Lib.hid HC0
      have HLO : (lo + hi) / 2 < k → q < 0 := fun h => by
        have h2 := HS.out.lo _ _ h hx
        rw [hq]
        exact h2
      have HHI : k ≤ (lo + hi) / 2 → ¬ q < 0 := fun h => by
        have h2 := HS.out.hi _ _ h hx
        rw [hq]
        exact h2
      have hcase : q < 0 ∧ (lo + hi) / 2 < k ∨ ¬ q < 0 ∧ k ≤ (lo + hi) / 2 := by
        rcases Nat.lt_or_ge ((lo + hi) / 2) k with h | h
        · exact .inl ⟨HLO h, h⟩
        · exact .inr ⟨HHI h, h⟩
      clear hx HC0 HLO HHI hq
      rcases hcase with ⟨hc, hk⟩ | ⟨hc, hk⟩
      · have t : decide (q < 0) = true := by simpa using hc
        clear hc
        have kb0 := fun d os => cell_regrown b0 d os
        have kb1 := fun d os => cell_regrown b1 d os
        have kb2 := fun d os => cell_regrown b2 d os
        have kb3 := fun d os => cell_regrown b3 d os
        have kb4 := fun d os => cell_regrown b4 d os
        have kb5 := fun d os => cell_regrown b5 d os
        have kc0 := fun d os => cell_regrown c0 d os
        have kc1 := fun d os => cell_regrown c1 d os
        have kc2 := fun d os => cell_regrown c2 d os
        have kc3 := fun d os => cell_regrown c3 d os
        have kc4 := fun d os => cell_regrown c4 d os
        have kc5 := fun d os => cell_regrown c5 d os
        have AC := Lib.hid fun (d' : Nat) (os : Array Obj) => Calls.regrown_of (HC.out (grow (redrawn wr d') os))
        clear b0 b1 b2 b3 b4 b5 c0 c1 c2 c3 c4 c5 HC H1
        go_wp2_with fail
        refine wp_region_quiet_below (by kernel_rfl) (by kernel_rfl) ?_
        repeat (go_big_quiet_step ((go_at_call 34; exact AC.out _ _)))
        refine wpQuiet_nil ?_
        intro _ hw'
        obtain ⟨⟨dq, osq⟩, hw''⟩ := hw'
        subst hw''
        have HB1 : Hid (Below (w.heap.size + 1) (w.alloc (verO ml ct vo A val.length cc gn tt)) (grow (redrawn wr dq) osq)) := Lib.hid (HBr.out.trans ((below_regrown wr dq osq).mono zr))
        go_wp2
        go_roundg (hi - ((lo + hi) / 2 + 1))
        case measure => omega
        case rel => exact ⟨(lo + hi) / 2 + 1, hi, by rw [show ((lo : Int) + (hi : Int)) / 2 + 1 = (((lo + hi) / 2 + 1 : Nat) : Int) by omega], rfl, by omega, by omega, by omega, Nat.le_refl _, HB1.out⟩
      · have t : decide (q < 0) = false := by simpa using hc
        clear hc
        have kb0 := fun d os => cell_regrown b0 d os
        have kb1 := fun d os => cell_regrown b1 d os
        have kb2 := fun d os => cell_regrown b2 d os
        have kb3 := fun d os => cell_regrown b3 d os
        have kb4 := fun d os => cell_regrown b4 d os
        have kb5 := fun d os => cell_regrown b5 d os
        have kc0 := fun d os => cell_regrown c0 d os
        have kc1 := fun d os => cell_regrown c1 d os
        have kc2 := fun d os => cell_regrown c2 d os
        have kc3 := fun d os => cell_regrown c3 d os
        have kc4 := fun d os => cell_regrown c4 d os
        have kc5 := fun d os => cell_regrown c5 d os
        have AC := Lib.hid fun (d' : Nat) (os : Array Obj) => Calls.regrown_of (HC.out (grow (redrawn wr d') os))
        clear b0 b1 b2 b3 b4 b5 c0 c1 c2 c3 c4 c5 HC H1
        go_wp2_with fail
        refine wp_region_quiet_below (by kernel_rfl) (by kernel_rfl) ?_
        repeat (go_big_quiet_step ((go_at_call 34; exact AC.out _ _)))
        refine wpQuiet_nil ?_
        intro _ hw'
        obtain ⟨⟨dq, osq⟩, hw''⟩ := hw'
        subst hw''
        have HB1 : Hid (Below (w.heap.size + 1) (w.alloc (verO ml ct vo A val.length cc gn tt)) (grow (redrawn wr dq) osq)) := Lib.hid (HBr.out.trans ((below_regrown wr dq osq).mono zr))
        go_wp2
        go_roundg ((lo + hi) / 2 - lo)
        case measure => omega
        case rel => exact ⟨lo, (lo + hi) / 2, rfl, by rw [show ((lo : Int) + (hi : Int)) / 2 = (((lo + hi) / 2 : Nat) : Int) by omega], by omega, by omega, by omega, Nat.le_refl _, HB1.out⟩
    · obtain rfl : lo = k := by omega
      by_cases hn : lo < n
      · obtain ⟨x, hx⟩ : ∃ x, L[lo]? = some x := ⟨L[lo]'(by rw [HN.out]; omega), List.getElem?_eq_getElem _⟩
        obtain ⟨c0, c1, c2, c3, c4, c5⟩ := row_ver H1.out hx
        obtain ⟨⟨ml', ct', vo', val', gn', tt'⟩, A', cc'⟩ := x
        have HC0 := fun W => ch_compare ml' ct' vo' A' val'.length cc' gn' tt' ml ct vo A val.length cc gn tt W
        obtain ⟨q, hq⟩ : ∃ q, q = or2 (cmp2 ml' ct' ml ct) (cmp1 vo' vo) := ⟨_, rfl⟩
        rw [← hq] at HC0
        have HC := Lib.hid HC0
        have hbt : (q == 0) = bb := by
          cases bb with
          | true =>
            obtain ⟨y, hy, hyi⟩ := HA.out.1 rfl
            rw [hx] at hy
            injection hy with hy
            subst hy
            have h2 : or2 (cmp2 ml' ct' ml ct) (cmp1 vo' vo) = 0 := hyi
            rw [hq, h2]; rfl
          | false =>
            have h2 : 0 < or2 (cmp2 ml' ct' ml ct) (cmp1 vo' vo) := HA.out.2 rfl _ hx
            rw [← hq] at h2
            exact beq_no (by omega)
        clear hx HC0 hq
        have kb0 := fun d os => cell_regrown b0 d os
        have kb1 := fun d os => cell_regrown b1 d os
        have kb2 := fun d os => cell_regrown b2 d os
        have kb3 := fun d os => cell_regrown b3 d os
        have kb4 := fun d os => cell_regrown b4 d os
        have kb5 := fun d os => cell_regrown b5 d os
        have kc0 := fun d os => cell_regrown c0 d os
        have kc1 := fun d os => cell_regrown c1 d os
        have kc2 := fun d os => cell_regrown c2 d os
        have kc3 := fun d os => cell_regrown c3 d os
        have kc4 := fun d os => cell_regrown c4 d os
        have kc5 := fun d os => cell_regrown c5 d os
        have AC := Lib.hid fun (d' : Nat) (os : Array Obj) => Calls.regrown_of (HC.out (grow (redrawn wr d') os))
        clear b0 b1 b2 b3 b4 b5 c0 c1 c2 c3 c4 c5 HC H1
        go_wp2_with fail
        refine wp_region_quiet_below (by kernel_rfl) (by kernel_rfl) ?_
        repeat (go_big_quiet_step ((go_at_call 34; exact AC.out _ _)))
        refine wpQuiet_nil ?_
        intro _ hw'
        obtain ⟨⟨dq, osq⟩, hw''⟩ := hw'
        subst hw''
        have HB1 : Hid (Below (w.heap.size + 1) (w.alloc (verO ml ct vo A val.length cc gn tt)) (grow (redrawn wr dq) osq)) := Lib.hid (HBr.out.trans ((below_regrown wr dq osq).mono zr))
        go_wp2
        go_ret2
        exact ⟨rfl, (HF.out _ HB1.out).1⟩
      · have hbf : bb = false := by
          cases bb with
          | true => obtain ⟨y, hy, _⟩ := HA.out.1 rfl; have := (List.getElem?_eq_some_iff.1 hy).1; rw [HN.out] at this; omega
          | false => rfl
        subst hbf
        have t8 : decide ((lo : Int) < (n : Int)) = false := by simp only [decide_eq_false_iff_not]; omega
        clear b0 b1 b2 b3 b4 b5
        go_wp2_with fail
        refine wp_region_quiet_below (by kernel_rfl) (by kernel_rfl) ?_
        repeat (go_big_quiet_step ((go_at_call 34; exact HX)))
        refine wpQuiet_nil ?_
        intro _ hw'
        obtain ⟨⟨dq, osq⟩, hw''⟩ := hw'
        subst hw''
        have HB1 := (HF.out _ HBr.out).1.trans ((below_regrown wr dq osq).mono (HF.out _ HBr.out).1.size)
        go_wp2
        go_ret2
        exact ⟨rfl, HB1⟩
end Go.Proofs.Ytfjnjababehmmaa
