/- upTo: how many versions are not above a stamp (the search written by gen/chup.py). -/
import Derived.Test.YtfjnjababehmmaaChFind
set_option linter.unusedSimpArgs false
set_option linter.unusedVariables false
namespace Go.Proofs.Ytfjnjababehmmaa
open Go.RowKit Go.Sort

def upQ (ml ct tm tc : Int) : Int := if 0 < cmp2 ml ct tm tc then 1 else -1
theorem upQ_lt {ml ct tm tc : Int} : upQ ml ct tm tc < 0 ↔ cmp2 ml ct tm tc ≤ 0 := by unfold upQ; split <;> omega
set_option maxHeartbeats 1000000 in
theorem up1 (ml ct vo : Int) (A : Option Addr) (n c : Nat) (gn : Bool) (tt tm tc : Int) (w : World) :
    Calls Try.prog 53 #[verV ml ct vo A n c gn tt, .agg #[.int .i64 tm, .int .i64 tc]] w fun e w' => e = .returned (.int .i64 (upQ ml ct tm tc)) ∧ Below w.heap.size w w' := by
  unfold upQ
  by_cases h : 0 < cmp2 ml ct tm tc
  · have t : decide (0 < cmp2 ml ct tm tc) = true := by simpa using h
    rw [if_pos h]
    have HC := Lib.hid (fun W => hlc_compare ml ct tm tc W)
    generalize cmp2 ml ct tm tc = q at *
    clear h
    go_enter Try.func53, Try.ntmps53
    go_wp2_with (go_at_call 46; refine (HC.out _).mono ?_; rintro e w1 ⟨rfl, hb1⟩)
    all_goals
      go_ret
      go_light
      exact ⟨rfl, by (repeat' (first | (with_reducible exact Below.refl _ _) | (with_reducible assumption) | (with_reducible refine Below.trans ?_ (Below.mono (by with_reducible assumption) ?_)) | (with_reducible refine Below.alloc ?_ ?_ _) | (with_reducible refine Below.setCell ?_ ?_ _) | (with_reducible refine below_drewN ?_ _) | (with_reducible refine Below.drew ?_) | go_size))⟩
  · have t : decide (0 < cmp2 ml ct tm tc) = false := by simpa using h
    rw [if_neg h]
    have HC := Lib.hid (fun W => hlc_compare ml ct tm tc W)
    generalize cmp2 ml ct tm tc = q at *
    clear h
    go_enter Try.func53, Try.ntmps53
    go_wp2_with (go_at_call 46; refine (HC.out _).mono ?_; rintro e w1 ⟨rfl, hb1⟩)
    all_goals
      go_ret
      go_light
      exact ⟨rfl, by (repeat' (first | (with_reducible exact Below.refl _ _) | (with_reducible assumption) | (with_reducible refine Below.trans ?_ (Below.mono (by with_reducible assumption) ?_)) | (with_reducible refine Below.alloc ?_ ?_ _) | (with_reducible refine Below.setCell ?_ ?_ _) | (with_reducible refine below_drewN ?_ _) | (with_reducible refine Below.drew ?_) | go_size))⟩
set_option maxHeartbeats 4000000 in
set_option maxRecDepth 100000 in
theorem bsearchT (g c n : Nat) (L : List Mv) (tm tc : Int) (k : Nat) (w : World) (h : w.ownsRow 0 28 6 (.slice (some ⟨g, 0, none⟩) n c) n (rowV L)) (hn : L.length = n) (hl : n ≤ 1000000) (hs : StandV L (fun x => cmp2 x.ml x.ct tm tc ≤ 0) k) (n0 : 0 < n) :
    Calls Try.prog 52 #[.slice (some ⟨g, 0, none⟩) n c, .agg #[.int .i64 tm, .int .i64 tc], .func (.func 53) #[] #[]] w fun e w' => e = .returned (.tuple #[.int .i64 k, .bool false]) ∧ Below w.heap.size w w' := by
  have HH := Lib.hid h
  have HS := Lib.hid hs
  have HN : Hid (L.length = n) := hn
  have HB0 : Below w.heap.size w (w.alloc (.cells #[.int .i64 tm, .int .i64 tc] 25)) := by (repeat' (first | (with_reducible exact Below.refl _ _) | (with_reducible assumption) | (with_reducible refine Below.trans ?_ (Below.mono (by with_reducible assumption) ?_)) | (with_reducible refine Below.alloc ?_ ?_ _) | (with_reducible refine Below.setCell ?_ ?_ _) | (with_reducible refine below_drewN ?_ _) | (with_reducible refine Below.drew ?_) | go_size))
  have z0 : ∀ (wr : World), Below (w.heap.size + 1) (w.alloc (.cells #[.int .i64 tm, .int .i64 tc] 25)) wr → wr.cell? ⟨w.heap.size, 0, none⟩ = some (.int .i64 tm) ∧ wr.cell? ⟨w.heap.size, 1, none⟩ = some (.int .i64 tc) := fun wr hb => by
    refine ⟨?_, ?_⟩ <;> (rw [hb.cell (by simp)]; simp)
  have HZ := Lib.hid z0
  have HB1 : Hid (Below (w.heap.size + 1) (w.alloc (.cells #[.int .i64 tm, .int .i64 tc] 25)) (w.alloc (.cells #[.int .i64 tm, .int .i64 tc] 25))) := Lib.hid (Below.refl _ _)
  have HF : Hid (∀ wr, Below (w.heap.size + 1) (w.alloc (.cells #[.int .i64 tm, .int .i64 tc] 25)) wr → Below w.heap.size w wr ∧ w.heap.size + 1 ≤ wr.heap.size) := Lib.hid (fun wr hb => ⟨HB0.trans (hb.mono (by omega)), by have := hb.size; simpa using this⟩)
  clear h hs hn z0 HB0
  go_enter Try.func52, Try.ntmps52
  go_wp2
  go_loopg [9, 10] n (fun kx s9 s10 wr => ∃ lo hi : Nat, s9 = .int .i64 lo ∧ s10 = .int .i64 hi ∧ lo ≤ k ∧ k ≤ hi ∧ hi ≤ n ∧ hi - lo ≤ kx ∧ Below (w.heap.size + 1) (w.alloc (.cells #[.int .i64 tm, .int .i64 tc] 25)) wr)
  case atStart => exact ⟨0, n, rfl, rfl, Nat.zero_le _, by have := HS.out.le; rw [HN.out] at this; exact this, Nat.le_refl _, by omega, HB1.out⟩
  case round =>
    obtain ⟨lo, hi, rfl, rfl, h1, h2, h3, hg, HB⟩ := hrel
    clear HB1
    have H1 := Lib.hid (row_below HH.out (HF.out _ HB).1)
    obtain ⟨b0, b1⟩ := HZ.out _ HB
    have zr := (HF.out _ HB).2
    have HBr := Lib.hid HB
    clear HB
    by_cases hlt : lo < hi
    · obtain ⟨x, hx⟩ : ∃ x, L[(lo + hi) / 2]? = some x := ⟨L[(lo + hi) / 2]'(by rw [HN.out]; omega), List.getElem?_eq_getElem _⟩
      obtain ⟨c0, c1, c2, c3, c4, c5⟩ := row_ver H1.out hx
      obtain ⟨⟨ml', ct', vo', val', gn', tt'⟩, A', cc'⟩ := x
      have HC0 := fun W => up1 ml' ct' vo' A' val'.length cc' gn' tt' tm tc W
      obtain ⟨q, hq⟩ : ∃ q, q = upQ ml' ct' tm tc := ⟨_, rfl⟩
      rw [← hq] at HC0
      have HC := Lib.hid HC0
      have HLO : (lo + hi) / 2 < k → q < 0 := fun h => by
        have h2 := HS.out.lo _ _ h hx
        rw [hq]
        exact upQ_lt.2 h2
      have HHI : k ≤ (lo + hi) / 2 → ¬ q < 0 := fun h => by
        have h2 := HS.out.hi _ _ h hx
        rw [hq]
        exact fun h3 => h2 (upQ_lt.1 h3)
      have hcase : q < 0 ∧ (lo + hi) / 2 < k ∨ ¬ q < 0 ∧ k ≤ (lo + hi) / 2 := by
        rcases Nat.lt_or_ge ((lo + hi) / 2) k with h | h
        · exact .inl ⟨HLO h, h⟩
        · exact .inr ⟨HHI h, h⟩
      clear hx HC0 HLO HHI hq
      rcases hcase with ⟨hc, hk⟩ | ⟨hc, hk⟩
      · have t : decide (q < 0) = true := by simpa using hc
        clear hc
        have kb0 := fun d os => cell_regrown b0 d os
        have kb1 := fun d os => cell_regrown b1 d os
        have kc0 := fun d os => cell_regrown c0 d os
        have kc1 := fun d os => cell_regrown c1 d os
        have kc2 := fun d os => cell_regrown c2 d os
        have kc3 := fun d os => cell_regrown c3 d os
        have kc4 := fun d os => cell_regrown c4 d os
        have kc5 := fun d os => cell_regrown c5 d os
        have AC := Lib.hid fun (d' : Nat) (os : Array Obj) => Calls.regrown_of (HC.out (grow (redrawn wr d') os))
        clear b0 b1 c0 c1 c2 c3 c4 c5 HC H1
        go_wp2_with fail
        refine wp_region_quiet_below (by kernel_rfl) (by kernel_rfl) ?_
        repeat (go_big_quiet_step ((go_at_call 53; exact AC.out _ _)))
        refine wpQuiet_nil ?_
        intro _ hw'
        obtain ⟨⟨dq, osq⟩, hw''⟩ := hw'
        subst hw''
        have HB1 : Hid (Below (w.heap.size + 1) (w.alloc (.cells #[.int .i64 tm, .int .i64 tc] 25)) (grow (redrawn wr dq) osq)) := Lib.hid (HBr.out.trans ((below_regrown wr dq osq).mono zr))
        go_wp2
        go_roundg (hi - ((lo + hi) / 2 + 1))
        case measure => omega
        case rel => exact ⟨(lo + hi) / 2 + 1, hi, by rw [show ((lo : Int) + (hi : Int)) / 2 + 1 = (((lo + hi) / 2 + 1 : Nat) : Int) by omega], rfl, by omega, by omega, by omega, Nat.le_refl _, HB1.out⟩
      · have t : decide (q < 0) = false := by simpa using hc
        clear hc
        have kb0 := fun d os => cell_regrown b0 d os
        have kb1 := fun d os => cell_regrown b1 d os
        have kc0 := fun d os => cell_regrown c0 d os
        have kc1 := fun d os => cell_regrown c1 d os
        have kc2 := fun d os => cell_regrown c2 d os
        have kc3 := fun d os => cell_regrown c3 d os
        have kc4 := fun d os => cell_regrown c4 d os
        have kc5 := fun d os => cell_regrown c5 d os
        have AC := Lib.hid fun (d' : Nat) (os : Array Obj) => Calls.regrown_of (HC.out (grow (redrawn wr d') os))
        clear b0 b1 c0 c1 c2 c3 c4 c5 HC H1
        go_wp2_with fail
        refine wp_region_quiet_below (by kernel_rfl) (by kernel_rfl) ?_
        repeat (go_big_quiet_step ((go_at_call 53; exact AC.out _ _)))
        refine wpQuiet_nil ?_
        intro _ hw'
        obtain ⟨⟨dq, osq⟩, hw''⟩ := hw'
        subst hw''
        have HB1 : Hid (Below (w.heap.size + 1) (w.alloc (.cells #[.int .i64 tm, .int .i64 tc] 25)) (grow (redrawn wr dq) osq)) := Lib.hid (HBr.out.trans ((below_regrown wr dq osq).mono zr))
        go_wp2
        go_roundg ((lo + hi) / 2 - lo)
        case measure => omega
        case rel => exact ⟨lo, (lo + hi) / 2, rfl, by rw [show ((lo : Int) + (hi : Int)) / 2 = (((lo + hi) / 2 : Nat) : Int) by omega], by omega, by omega, by omega, Nat.le_refl _, HB1.out⟩
    · obtain rfl : lo = k := by omega
      by_cases hn : lo < n
      · obtain ⟨x, hx⟩ : ∃ x, L[lo]? = some x := ⟨L[lo]'(by rw [HN.out]; omega), List.getElem?_eq_getElem _⟩
        obtain ⟨c0, c1, c2, c3, c4, c5⟩ := row_ver H1.out hx
        obtain ⟨⟨ml', ct', vo', val', gn', tt'⟩, A', cc'⟩ := x
        have HC0 := fun W => up1 ml' ct' vo' A' val'.length cc' gn' tt' tm tc W
        obtain ⟨q, hq⟩ : ∃ q, q = upQ ml' ct' tm tc := ⟨_, rfl⟩
        rw [← hq] at HC0
        have HC := Lib.hid HC0
        have hbt : (q == 0) = false := by rw [hq]; unfold upQ; split <;> rfl
        clear hx HC0 hq
        have kb0 := fun d os => cell_regrown b0 d os
        have kb1 := fun d os => cell_regrown b1 d os
        have kc0 := fun d os => cell_regrown c0 d os
        have kc1 := fun d os => cell_regrown c1 d os
        have kc2 := fun d os => cell_regrown c2 d os
        have kc3 := fun d os => cell_regrown c3 d os
        have kc4 := fun d os => cell_regrown c4 d os
        have kc5 := fun d os => cell_regrown c5 d os
        have AC := Lib.hid fun (d' : Nat) (os : Array Obj) => Calls.regrown_of (HC.out (grow (redrawn wr d') os))
        clear b0 b1 c0 c1 c2 c3 c4 c5 HC H1
        go_wp2_with fail
        refine wp_region_quiet_below (by kernel_rfl) (by kernel_rfl) ?_
        repeat (go_big_quiet_step ((go_at_call 53; exact AC.out _ _)))
        refine wpQuiet_nil ?_
        intro _ hw'
        obtain ⟨⟨dq, osq⟩, hw''⟩ := hw'
        subst hw''
        have HB1 : Hid (Below (w.heap.size + 1) (w.alloc (.cells #[.int .i64 tm, .int .i64 tc] 25)) (grow (redrawn wr dq) osq)) := Lib.hid (HBr.out.trans ((below_regrown wr dq osq).mono zr))
        go_wp2
        go_ret2
        exact ⟨rfl, (HF.out _ HB1.out).1⟩
      · skip
        have t8 : decide ((lo : Int) < (n : Int)) = false := by simp only [decide_eq_false_iff_not]; omega
        clear b0 b1
        go_wp2_with fail
        refine wp_region_quiet_below (by kernel_rfl) (by kernel_rfl) ?_
        repeat (go_big_quiet_step ((go_at_call 53; exact HX)))
        refine wpQuiet_nil ?_
        intro _ hw'
        obtain ⟨⟨dq, osq⟩, hw''⟩ := hw'
        subst hw''
        have HB1 := (HF.out _ HBr.out).1.trans ((below_regrown wr dq osq).mono (HF.out _ HBr.out).1.size)
        go_wp2
        go_ret2
        exact ⟨rfl, HB1⟩
end Go.Proofs.Ytfjnjababehmmaa
