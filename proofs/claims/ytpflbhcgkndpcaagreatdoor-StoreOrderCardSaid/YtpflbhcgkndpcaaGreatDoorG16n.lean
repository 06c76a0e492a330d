/- A chain: Put, three ways. -/
import Derived.Test.YtpflbhcgkndpcaaGreatDoorChCmp
import Derived.Test.YtpflbhcgkndpcaaGreatDoorChClone
import Derived.Deep.LoopGhost
import Derived.BigQuiet
import Derived.Lib.QuietBelow
import Derived.Test.YtpflbhcgkndpcaaGreatDoorG16o
import Derived.Test.YtpflbhcgkndpcaaGreatDoorChIs
import Derived.Deep.DeepCutAuto
/- Where a version stands in a chain's row: slices.BinarySearchFunc at chain.compare. -/
set_option linter.unusedSimpArgs false
set_option linter.unusedVariables false
namespace Go.Proofs.YtpflbhcgkndpcaaGreatDoor
open Go.RowKit Go.Sort

/-- k versions are as p says, the others are not. -/
structure StandV (L : List Mv) (p : Vs → Prop) (k : Nat) : Prop where
  le : k ≤ L.length
  lo : ∀ (j : Nat) x, j < k → L[j]? = some x → p x.v
  hi : ∀ (j : Nat) x, k ≤ j → L[j]? = some x → ¬ p x.v
def HasV (L : List Mv) (v : Vs) (k : Nat) (b : Bool) : Prop := (b = true → ∃ x, L[k]? = some x ∧ cmpV x.v v = 0) ∧ (b = false → ∀ x, L[k]? = some x → 0 < cmpV x.v v)
theorem row_below {w w' : World} {e : TypeId} {base size n : Nat} {v : Value} {xs : List Value} (h : w.ownsRow base e size v n xs) (k : Below w.heap.size w w') : w'.ownsRow base e size v n xs := (But.of_below (S := fun _ => False) k).row h (fun _ _ hf => hf)
theorem first_below {w w' : World} (h : Below w.heap.size w w') : Below w.heap.size w w' := h
set_option maxHeartbeats 4000000 in
set_option maxRecDepth 100000 in
theorem bsearchV (g c n : Nat) (L : List Mv) (m : Mv) (k : Nat) (bb : Bool) (w : World) (h : w.ownsRow 0 44 6 (.slice (some ⟨g, 0, none⟩) n c) n (rowV L)) (hn : L.length = n) (hl : n ≤ 1000000) (hs : StandV L (fun x => cmpV x m.v < 0) k) (ha : HasV L m.v k bb) (n0 : 0 < n) :
    Calls Tryz.prog 162 #[.slice (some ⟨g, 0, none⟩) n c, m.val, .func (.func 163) #[] #[]] w fun e w' => e = .returned (.tuple #[.int .i64 k, .bool bb]) ∧ Below w.heap.size w w' := by
  obtain ⟨⟨ml, ct, vo, val, gn, tt⟩, A, cc⟩ := m
  have HH := Lib.hid h
  have HS := Lib.hid hs
  have HA := Lib.hid ha
  have HN : Hid (L.length = n) := hn
  have HB0 : Below w.heap.size w (w.alloc (verO ml ct vo A val.length cc gn tt)) := by (repeat' (first | (with_reducible exact Below.refl _ _) | (with_reducible assumption) | (with_reducible refine Below.trans ?_ (Below.mono (by with_reducible assumption) ?_)) | (with_reducible refine Below.alloc ?_ ?_ _) | (with_reducible refine Below.setCell ?_ ?_ _) | (with_reducible refine below_drewN ?_ _) | (with_reducible refine Below.drew ?_) | go_size))
  have z0 : ∀ (wr : World), Below (w.heap.size + 1) (w.alloc (verO ml ct vo A val.length cc gn tt)) wr → wr.cell? ⟨w.heap.size, 0, none⟩ = some (.int .i64 ml) ∧ wr.cell? ⟨w.heap.size, 1, none⟩ = some (.int .i64 ct) ∧ wr.cell? ⟨w.heap.size, 2, none⟩ = some (.int .i64 vo) ∧ wr.cell? ⟨w.heap.size, 3, none⟩ = some (.slice A val.length cc) ∧ wr.cell? ⟨w.heap.size, 4, none⟩ = some (.bool gn) ∧ wr.cell? ⟨w.heap.size, 5, none⟩ = some (.int .i64 tt) := fun wr hb => by
    refine ⟨?_, ?_, ?_, ?_, ?_, ?_⟩ <;> (rw [hb.cell (by simp)]; simp)
  have HZ := Lib.hid z0
  have HB1 : Hid (Below (w.heap.size + 1) (w.alloc (verO ml ct vo A val.length cc gn tt)) (w.alloc (verO ml ct vo A val.length cc gn tt))) := Lib.hid (Below.refl _ _)
  have HF : Hid (∀ wr, Below (w.heap.size + 1) (w.alloc (verO ml ct vo A val.length cc gn tt)) wr → Below w.heap.size w wr ∧ w.heap.size + 1 ≤ wr.heap.size) := Lib.hid (fun wr hb => ⟨HB0.trans (hb.mono (by omega)), by have := hb.size; simpa using this⟩)
  clear h hs ha hn z0 HB0
  go_enter Tryz.func162, Tryz.ntmps162
  go_wp2
  go_loopg [9, 10] n (fun kx s9 s10 wr => ∃ lo hi : Nat, s9 = .int .i64 lo ∧ s10 = .int .i64 hi ∧ lo ≤ k ∧ k ≤ hi ∧ hi ≤ n ∧ hi - lo ≤ kx ∧ Below (w.heap.size + 1) (w.alloc (verO ml ct vo A val.length cc gn tt)) wr)
  case atStart => exact ⟨0, n, rfl, rfl, Nat.zero_le _, by have := HS.out.le; rw [HN.out] at this; exact this, Nat.le_refl _, by omega, HB1.out⟩
  case round =>
    obtain ⟨lo, hi, rfl, rfl, h1, h2, h3, hg, HB⟩ := hrel
    clear HB1
    have H1 := Lib.hid (row_below HH.out (HF.out _ HB).1)
    obtain ⟨b0, b1, b2, b3, b4, b5⟩ := HZ.out _ HB
    have zr := (HF.out _ HB).2
    have HBr := Lib.hid HB
    clear HB
    by_cases hlt : lo < hi
    · obtain ⟨x, hx⟩ : ∃ x, L[(lo + hi) / 2]? = some x := ⟨L[(lo + hi) / 2]'(by rw [HN.out]; omega), List.getElem?_eq_getElem _⟩
      obtain ⟨c0, c1, c2, c3, c4, c5⟩ := row_ver H1.out hx
      obtain ⟨⟨ml', ct', vo', val', gn', tt'⟩, A', cc'⟩ := x
      have HC0 := fun W => ch_compare ml' ct' vo' A' val'.length cc' gn' tt' ml ct vo A val.length cc gn tt W
      obtain ⟨q, hq⟩ : ∃ q, q = or2 (cmp2 ml' ct' ml ct) (cmp1 vo' vo) := ⟨_, rfl⟩
      rw [← hq] at HC0
      have HC := Lib.hid HC0
      have HLO : (lo + hi) / 2 < k → q < 0 := fun h => by
        have h2 := HS.out.lo _ _ h hx
        rw [hq]
        exact h2
      have HHI : k ≤ (lo + hi) / 2 → ¬ q < 0 := fun h => by
        have h2 := HS.out.hi _ _ h hx
        rw [hq]
        exact h2
      have hcase : q < 0 ∧ (lo + hi) / 2 < k ∨ ¬ q < 0 ∧ k ≤ (lo + hi) / 2 := by
        rcases Nat.lt_or_ge ((lo + hi) / 2) k with h | h
        · exact .inl ⟨HLO h, h⟩
        · exact .inr ⟨HHI h, h⟩
      clear hx HC0 HLO HHI hq
      rcases hcase with ⟨hc, hk⟩ | ⟨hc, hk⟩
      · have t : decide (q < 0) = true := by simpa using hc
        clear hc
        have kb0 := fun d os => cell_regrown b0 d os
        have kb1 := fun d os => cell_regrown b1 d os
        have kb2 := fun d os => cell_regrown b2 d os
        have kb3 := fun d os => cell_regrown b3 d os
        have kb4 := fun d os => cell_regrown b4 d os
        have kb5 := fun d os => cell_regrown b5 d os
        have kc0 := fun d os => cell_regrown c0 d os
        have kc1 := fun d os => cell_regrown c1 d os
        have kc2 := fun d os => cell_regrown c2 d os
        have kc3 := fun d os => cell_regrown c3 d os
        have kc4 := fun d os => cell_regrown c4 d os
        have kc5 := fun d os => cell_regrown c5 d os
        have AC := Lib.hid fun (d' : Nat) (os : Array Obj) => Calls.regrown_of (HC.out (grow (redrawn wr d') os))
        clear b0 b1 b2 b3 b4 b5 c0 c1 c2 c3 c4 c5 HC H1
        go_wp2_with fail
        refine wp_region_quiet_below (by kernel_rfl) (by kernel_rfl) ?_
        repeat (go_big_quiet_step ((go_at_call 163; exact AC.out _ _)))
        refine wpQuiet_nil ?_
        intro _ hw'
        obtain ⟨⟨dq, osq⟩, hw''⟩ := hw'
        subst hw''
        have HB1 : Hid (Below (w.heap.size + 1) (w.alloc (verO ml ct vo A val.length cc gn tt)) (grow (redrawn wr dq) osq)) := Lib.hid (HBr.out.trans ((below_regrown wr dq osq).mono zr))
        go_wp2
        go_roundg (hi - ((lo + hi) / 2 + 1))
        case measure => omega
        case rel => exact ⟨(lo + hi) / 2 + 1, hi, by rw [show ((lo : Int) + (hi : Int)) / 2 + 1 = (((lo + hi) / 2 + 1 : Nat) : Int) by omega], rfl, by omega, by omega, by omega, Nat.le_refl _, HB1.out⟩
      · have t : decide (q < 0) = false := by simpa using hc
        clear hc
        have kb0 := fun d os => cell_regrown b0 d os
        have kb1 := fun d os => cell_regrown b1 d os
        have kb2 := fun d os => cell_regrown b2 d os
        have kb3 := fun d os => cell_regrown b3 d os
        have kb4 := fun d os => cell_regrown b4 d os
        have kb5 := fun d os => cell_regrown b5 d os
        have kc0 := fun d os => cell_regrown c0 d os
        have kc1 := fun d os => cell_regrown c1 d os
        have kc2 := fun d os => cell_regrown c2 d os
        have kc3 := fun d os => cell_regrown c3 d os
        have kc4 := fun d os => cell_regrown c4 d os
        have kc5 := fun d os => cell_regrown c5 d os
        have AC := Lib.hid fun (d' : Nat) (os : Array Obj) => Calls.regrown_of (HC.out (grow (redrawn wr d') os))
        clear b0 b1 b2 b3 b4 b5 c0 c1 c2 c3 c4 c5 HC H1
        go_wp2_with fail
        refine wp_region_quiet_below (by kernel_rfl) (by kernel_rfl) ?_
        repeat (go_big_quiet_step ((go_at_call 163; exact AC.out _ _)))
        refine wpQuiet_nil ?_
        intro _ hw'
        obtain ⟨⟨dq, osq⟩, hw''⟩ := hw'
        subst hw''
        have HB1 : Hid (Below (w.heap.size + 1) (w.alloc (verO ml ct vo A val.length cc gn tt)) (grow (redrawn wr dq) osq)) := Lib.hid (HBr.out.trans ((below_regrown wr dq osq).mono zr))
        go_wp2
        go_roundg ((lo + hi) / 2 - lo)
        case measure => omega
        case rel => exact ⟨lo, (lo + hi) / 2, rfl, by rw [show ((lo : Int) + (hi : Int)) / 2 = (((lo + hi) / 2 : Nat) : Int) by omega], by omega, by omega, by omega, Nat.le_refl _, HB1.out⟩
    · obtain rfl : lo = k := by omega
      by_cases hn : lo < n
      · obtain ⟨x, hx⟩ : ∃ x, L[lo]? = some x := ⟨L[lo]'(by rw [HN.out]; omega), List.getElem?_eq_getElem _⟩
        obtain ⟨c0, c1, c2, c3, c4, c5⟩ := row_ver H1.out hx
        obtain ⟨⟨ml', ct', vo', val', gn', tt'⟩, A', cc'⟩ := x
        have HC0 := fun W => ch_compare ml' ct' vo' A' val'.length cc' gn' tt' ml ct vo A val.length cc gn tt W
        obtain ⟨q, hq⟩ : ∃ q, q = or2 (cmp2 ml' ct' ml ct) (cmp1 vo' vo) := ⟨_, rfl⟩
        rw [← hq] at HC0
        have HC := Lib.hid HC0
        have hbt : (q == 0) = bb := by
          cases bb with
          | true =>
            obtain ⟨y, hy, hyi⟩ := HA.out.1 rfl
            rw [hx] at hy
            injection hy with hy
            subst hy
            have h2 : or2 (cmp2 ml' ct' ml ct) (cmp1 vo' vo) = 0 := hyi
            rw [hq, h2]; rfl
          | false =>
            have h2 : 0 < or2 (cmp2 ml' ct' ml ct) (cmp1 vo' vo) := HA.out.2 rfl _ hx
            rw [← hq] at h2
            exact beq_no (by omega)
        clear hx HC0 hq
        have kb0 := fun d os => cell_regrown b0 d os
        have kb1 := fun d os => cell_regrown b1 d os
        have kb2 := fun d os => cell_regrown b2 d os
        have kb3 := fun d os => cell_regrown b3 d os
        have kb4 := fun d os => cell_regrown b4 d os
        have kb5 := fun d os => cell_regrown b5 d os
        have kc0 := fun d os => cell_regrown c0 d os
        have kc1 := fun d os => cell_regrown c1 d os
        have kc2 := fun d os => cell_regrown c2 d os
        have kc3 := fun d os => cell_regrown c3 d os
        have kc4 := fun d os => cell_regrown c4 d os
        have kc5 := fun d os => cell_regrown c5 d os
        have AC := Lib.hid fun (d' : Nat) (os : Array Obj) => Calls.regrown_of (HC.out (grow (redrawn wr d') os))
        clear b0 b1 b2 b3 b4 b5 c0 c1 c2 c3 c4 c5 HC H1
        go_wp2_with fail
        refine wp_region_quiet_below (by kernel_rfl) (by kernel_rfl) ?_
        repeat (go_big_quiet_step ((go_at_call 163; exact AC.out _ _)))
        refine wpQuiet_nil ?_
        intro _ hw'
        obtain ⟨⟨dq, osq⟩, hw''⟩ := hw'
        subst hw''
        have HB1 : Hid (Below (w.heap.size + 1) (w.alloc (verO ml ct vo A val.length cc gn tt)) (grow (redrawn wr dq) osq)) := Lib.hid (HBr.out.trans ((below_regrown wr dq osq).mono zr))
        go_wp2
        go_ret2
        exact ⟨rfl, (HF.out _ HB1.out).1⟩
      · have hbf : bb = false := by
          cases bb with
          | true => obtain ⟨y, hy, _⟩ := HA.out.1 rfl; have := (List.getElem?_eq_some_iff.1 hy).1; rw [HN.out] at this; omega
          | false => rfl
        subst hbf
        have t8 : decide ((lo : Int) < (n : Int)) = false := by simp only [decide_eq_false_iff_not]; omega
        clear b0 b1 b2 b3 b4 b5
        go_wp2_with fail
        refine wp_region_quiet_below (by kernel_rfl) (by kernel_rfl) ?_
        repeat (go_big_quiet_step ((go_at_call 163; exact HX)))
        refine wpQuiet_nil ?_
        intro _ hw'
        obtain ⟨⟨dq, osq⟩, hw''⟩ := hw'
        subst hw''
        have HB1 := (HF.out _ HBr.out).1.trans ((below_regrown wr dq osq).mono (HF.out _ HBr.out).1.size)
        go_wp2
        go_ret2
        exact ⟨rfl, HB1⟩
end Go.Proofs.YtpflbhcgkndpcaaGreatDoor

/- upTo: how many versions are not above a stamp (the search written by gen/chup.py). -/
namespace Go.Proofs.YtpflbhcgkndpcaaGreatDoor
open Go.RowKit Go.Sort

def upQ (ml ct tm tc : Int) : Int := if 0 < cmp2 ml ct tm tc then 1 else -1
theorem upQ_lt {ml ct tm tc : Int} : upQ ml ct tm tc < 0 ↔ cmp2 ml ct tm tc ≤ 0 := by unfold upQ; split <;> omega
set_option maxHeartbeats 1000000 in
theorem up1 (ml ct vo : Int) (A : Option Addr) (n c : Nat) (gn : Bool) (tt tm tc : Int) (w : World) :
    Calls Tryz.prog 166 #[verV ml ct vo A n c gn tt, .agg #[.int .i64 tm, .int .i64 tc]] w fun e w' => e = .returned (.int .i64 (upQ ml ct tm tc)) ∧ Below w.heap.size w w' := by
  unfold upQ
  by_cases h : 0 < cmp2 ml ct tm tc
  · have t : decide (0 < cmp2 ml ct tm tc) = true := by simpa using h
    rw [if_pos h]
    have HC := Lib.hid (fun W => hlc_compare ml ct tm tc W)
    generalize cmp2 ml ct tm tc = q at *
    clear h
    go_enter Tryz.func166, Tryz.ntmps166
    go_wp2_with (go_at_call 37; refine (HC.out _).mono ?_; rintro e w1 ⟨rfl, hb1⟩)
    all_goals
      go_ret
      go_light
      exact ⟨rfl, by (repeat' (first | (with_reducible exact Below.refl _ _) | (with_reducible assumption) | (with_reducible refine Below.trans ?_ (Below.mono (by with_reducible assumption) ?_)) | (with_reducible refine Below.alloc ?_ ?_ _) | (with_reducible refine Below.setCell ?_ ?_ _) | (with_reducible refine below_drewN ?_ _) | (with_reducible refine Below.drew ?_) | go_size))⟩
  · have t : decide (0 < cmp2 ml ct tm tc) = false := by simpa using h
    rw [if_neg h]
    have HC := Lib.hid (fun W => hlc_compare ml ct tm tc W)
    generalize cmp2 ml ct tm tc = q at *
    clear h
    go_enter Tryz.func166, Tryz.ntmps166
    go_wp2_with (go_at_call 37; refine (HC.out _).mono ?_; rintro e w1 ⟨rfl, hb1⟩)
    all_goals
      go_ret
      go_light
      exact ⟨rfl, by (repeat' (first | (with_reducible exact Below.refl _ _) | (with_reducible assumption) | (with_reducible refine Below.trans ?_ (Below.mono (by with_reducible assumption) ?_)) | (with_reducible refine Below.alloc ?_ ?_ _) | (with_reducible refine Below.setCell ?_ ?_ _) | (with_reducible refine below_drewN ?_ _) | (with_reducible refine Below.drew ?_) | go_size))⟩
set_option maxHeartbeats 4000000 in
set_option maxRecDepth 100000 in
theorem bsearchT (g c n : Nat) (L : List Mv) (tm tc : Int) (k : Nat) (w : World) (h : w.ownsRow 0 44 6 (.slice (some ⟨g, 0, none⟩) n c) n (rowV L)) (hn : L.length = n) (hl : n ≤ 1000000) (hs : StandV L (fun x => cmp2 x.ml x.ct tm tc ≤ 0) k) (n0 : 0 < n) :
    Calls Tryz.prog 165 #[.slice (some ⟨g, 0, none⟩) n c, .agg #[.int .i64 tm, .int .i64 tc], .func (.func 166) #[] #[]] w fun e w' => e = .returned (.tuple #[.int .i64 k, .bool false]) ∧ Below w.heap.size w w' := by
  have HH := Lib.hid h
  have HS := Lib.hid hs
  have HN : Hid (L.length = n) := hn
  have HB0 : Below w.heap.size w (w.alloc (.cells #[.int .i64 tm, .int .i64 tc] 25)) := by (repeat' (first | (with_reducible exact Below.refl _ _) | (with_reducible assumption) | (with_reducible refine Below.trans ?_ (Below.mono (by with_reducible assumption) ?_)) | (with_reducible refine Below.alloc ?_ ?_ _) | (with_reducible refine Below.setCell ?_ ?_ _) | (with_reducible refine below_drewN ?_ _) | (with_reducible refine Below.drew ?_) | go_size))
  have z0 : ∀ (wr : World), Below (w.heap.size + 1) (w.alloc (.cells #[.int .i64 tm, .int .i64 tc] 25)) wr → wr.cell? ⟨w.heap.size, 0, none⟩ = some (.int .i64 tm) ∧ wr.cell? ⟨w.heap.size, 1, none⟩ = some (.int .i64 tc) := fun wr hb => by
    refine ⟨?_, ?_⟩ <;> (rw [hb.cell (by simp)]; simp)
  have HZ := Lib.hid z0
  have HB1 : Hid (Below (w.heap.size + 1) (w.alloc (.cells #[.int .i64 tm, .int .i64 tc] 25)) (w.alloc (.cells #[.int .i64 tm, .int .i64 tc] 25))) := Lib.hid (Below.refl _ _)
  have HF : Hid (∀ wr, Below (w.heap.size + 1) (w.alloc (.cells #[.int .i64 tm, .int .i64 tc] 25)) wr → Below w.heap.size w wr ∧ w.heap.size + 1 ≤ wr.heap.size) := Lib.hid (fun wr hb => ⟨HB0.trans (hb.mono (by omega)), by have := hb.size; simpa using this⟩)
  clear h hs hn z0 HB0
  go_enter Tryz.func165, Tryz.ntmps165
  go_wp2
  go_loopg [9, 10] n (fun kx s9 s10 wr => ∃ lo hi : Nat, s9 = .int .i64 lo ∧ s10 = .int .i64 hi ∧ lo ≤ k ∧ k ≤ hi ∧ hi ≤ n ∧ hi - lo ≤ kx ∧ Below (w.heap.size + 1) (w.alloc (.cells #[.int .i64 tm, .int .i64 tc] 25)) wr)
  case atStart => exact ⟨0, n, rfl, rfl, Nat.zero_le _, by have := HS.out.le; rw [HN.out] at this; exact this, Nat.le_refl _, by omega, HB1.out⟩
  case round =>
    obtain ⟨lo, hi, rfl, rfl, h1, h2, h3, hg, HB⟩ := hrel
    clear HB1
    have H1 := Lib.hid (row_below HH.out (HF.out _ HB).1)
    obtain ⟨b0, b1⟩ := HZ.out _ HB
    have zr := (HF.out _ HB).2
    have HBr := Lib.hid HB
    clear HB
    by_cases hlt : lo < hi
    · obtain ⟨x, hx⟩ : ∃ x, L[(lo + hi) / 2]? = some x := ⟨L[(lo + hi) / 2]'(by rw [HN.out]; omega), List.getElem?_eq_getElem _⟩
      obtain ⟨c0, c1, c2, c3, c4, c5⟩ := row_ver H1.out hx
      obtain ⟨⟨ml', ct', vo', val', gn', tt'⟩, A', cc'⟩ := x
      have HC0 := fun W => up1 ml' ct' vo' A' val'.length cc' gn' tt' tm tc W
      obtain ⟨q, hq⟩ : ∃ q, q = upQ ml' ct' tm tc := ⟨_, rfl⟩
      rw [← hq] at HC0
      have HC := Lib.hid HC0
      have HLO : (lo + hi) / 2 < k → q < 0 := fun h => by
        have h2 := HS.out.lo _ _ h hx
        rw [hq]
        exact upQ_lt.2 h2
      have HHI : k ≤ (lo + hi) / 2 → ¬ q < 0 := fun h => by
        have h2 := HS.out.hi _ _ h hx
        rw [hq]
        exact fun h3 => h2 (upQ_lt.1 h3)
      have hcase : q < 0 ∧ (lo + hi) / 2 < k ∨ ¬ q < 0 ∧ k ≤ (lo + hi) / 2 := by
        rcases Nat.lt_or_ge ((lo + hi) / 2) k with h | h
        · exact .inl ⟨HLO h, h⟩
        · exact .inr ⟨HHI h, h⟩
      clear hx HC0 HLO HHI hq
      rcases hcase with ⟨hc, hk⟩ | ⟨hc, hk⟩
      · have t : decide (q < 0) = true := by simpa using hc
        clear hc
        have kb0 := fun d os => cell_regrown b0 d os
        have kb1 := fun d os => cell_regrown b1 d os
        have kc0 := fun d os => cell_regrown c0 d os
        have kc1 := fun d os => cell_regrown c1 d os
        have kc2 := fun d os => cell_regrown c2 d os
        have kc3 := fun d os => cell_regrown c3 d os
        have kc4 := fun d os => cell_regrown c4 d os
        have kc5 := fun d os => cell_regrown c5 d os
        have AC := Lib.hid fun (d' : Nat) (os : Array Obj) => Calls.regrown_of (HC.out (grow (redrawn wr d') os))
        clear b0 b1 c0 c1 c2 c3 c4 c5 HC H1
        go_wp2_with fail
        refine wp_region_quiet_below (by kernel_rfl) (by kernel_rfl) ?_
        repeat (go_big_quiet_step ((go_at_call 166; exact AC.out _ _)))
        refine wpQuiet_nil ?_
        intro _ hw'
        obtain ⟨⟨dq, osq⟩, hw''⟩ := hw'
        subst hw''
        have HB1 : Hid (Below (w.heap.size + 1) (w.alloc (.cells #[.int .i64 tm, .int .i64 tc] 25)) (grow (redrawn wr dq) osq)) := Lib.hid (HBr.out.trans ((below_regrown wr dq osq).mono zr))
        go_wp2
        go_roundg (hi - ((lo + hi) / 2 + 1))
        case measure => omega
        case rel => exact ⟨(lo + hi) / 2 + 1, hi, by rw [show ((lo : Int) + (hi : Int)) / 2 + 1 = (((lo + hi) / 2 + 1 : Nat) : Int) by omega], rfl, by omega, by omega, by omega, Nat.le_refl _, HB1.out⟩
      · have t : decide (q < 0) = false := by simpa using hc
        clear hc
        have kb0 := fun d os => cell_regrown b0 d os
        have kb1 := fun d os => cell_regrown b1 d os
        have kc0 := fun d os => cell_regrown c0 d os
        have kc1 := fun d os => cell_regrown c1 d os
        have kc2 := fun d os => cell_regrown c2 d os
        have kc3 := fun d os => cell_regrown c3 d os
        have kc4 := fun d os => cell_regrown c4 d os
        have kc5 := fun d os => cell_regrown c5 d os
        have AC := Lib.hid fun (d' : Nat) (os : Array Obj) => Calls.regrown_of (HC.out (grow (redrawn wr d') os))
        clear b0 b1 c0 c1 c2 c3 c4 c5 HC H1
        go_wp2_with fail
        refine wp_region_quiet_below (by kernel_rfl) (by kernel_rfl) ?_
        repeat (go_big_quiet_step ((go_at_call 166; exact AC.out _ _)))
        refine wpQuiet_nil ?_
        intro _ hw'
        obtain ⟨⟨dq, osq⟩, hw''⟩ := hw'
        subst hw''
        have HB1 : Hid (Below (w.heap.size + 1) (w.alloc (.cells #[.int .i64 tm, .int .i64 tc] 25)) (grow (redrawn wr dq) osq)) := Lib.hid (HBr.out.trans ((below_regrown wr dq osq).mono zr))
        go_wp2
        go_roundg ((lo + hi) / 2 - lo)
        case measure => omega
        case rel => exact ⟨lo, (lo + hi) / 2, rfl, by rw [show ((lo : Int) + (hi : Int)) / 2 = (((lo + hi) / 2 : Nat) : Int) by omega], by omega, by omega, by omega, Nat.le_refl _, HB1.out⟩
    · obtain rfl : lo = k := by omega
      by_cases hn : lo < n
      · obtain ⟨x, hx⟩ : ∃ x, L[lo]? = some x := ⟨L[lo]'(by rw [HN.out]; omega), List.getElem?_eq_getElem _⟩
        obtain ⟨c0, c1, c2, c3, c4, c5⟩ := row_ver H1.out hx
        obtain ⟨⟨ml', ct', vo', val', gn', tt'⟩, A', cc'⟩ := x
        have HC0 := fun W => up1 ml' ct' vo' A' val'.length cc' gn' tt' tm tc W
        obtain ⟨q, hq⟩ : ∃ q, q = upQ ml' ct' tm tc := ⟨_, rfl⟩
        rw [← hq] at HC0
        have HC := Lib.hid HC0
        have hbt : (q == 0) = false := by rw [hq]; unfold upQ; split <;> rfl
        clear hx HC0 hq
        have kb0 := fun d os => cell_regrown b0 d os
        have kb1 := fun d os => cell_regrown b1 d os
        have kc0 := fun d os => cell_regrown c0 d os
        have kc1 := fun d os => cell_regrown c1 d os
        have kc2 := fun d os => cell_regrown c2 d os
        have kc3 := fun d os => cell_regrown c3 d os
        have kc4 := fun d os => cell_regrown c4 d os
        have kc5 := fun d os => cell_regrown c5 d os
        have AC := Lib.hid fun (d' : Nat) (os : Array Obj) => Calls.regrown_of (HC.out (grow (redrawn wr d') os))
        clear b0 b1 c0 c1 c2 c3 c4 c5 HC H1
        go_wp2_with fail
        refine wp_region_quiet_below (by kernel_rfl) (by kernel_rfl) ?_
        repeat (go_big_quiet_step ((go_at_call 166; exact AC.out _ _)))
        refine wpQuiet_nil ?_
        intro _ hw'
        obtain ⟨⟨dq, osq⟩, hw''⟩ := hw'
        subst hw''
        have HB1 : Hid (Below (w.heap.size + 1) (w.alloc (.cells #[.int .i64 tm, .int .i64 tc] 25)) (grow (redrawn wr dq) osq)) := Lib.hid (HBr.out.trans ((below_regrown wr dq osq).mono zr))
        go_wp2
        go_ret2
        exact ⟨rfl, (HF.out _ HB1.out).1⟩
      · skip
        have t8 : decide ((lo : Int) < (n : Int)) = false := by simp only [decide_eq_false_iff_not]; omega
        clear b0 b1
        go_wp2_with fail
        refine wp_region_quiet_below (by kernel_rfl) (by kernel_rfl) ?_
        repeat (go_big_quiet_step ((go_at_call 166; exact HX)))
        refine wpQuiet_nil ?_
        intro _ hw'
        obtain ⟨⟨dq, osq⟩, hw''⟩ := hw'
        subst hw''
        have HB1 := (HF.out _ HBr.out).1.trans ((below_regrown wr dq osq).mono (HF.out _ HBr.out).1.size)
        go_wp2
        go_ret2
        exact ⟨rfl, HB1⟩
end Go.Proofs.YtpflbhcgkndpcaaGreatDoor

/- A chain: Put. -/
namespace Go.Proofs.YtpflbhcgkndpcaaGreatDoor
open Go.RowKit Go.Sort

theorem ver_insert (v : Value) (n i vb vc : Nat) (L : List Mv) (m : Mv) (w : World) (h : w.ownsRow 0 44 6 v n (rowV L)) (hn : L.length = n) (hl : n ≤ 1000000) (hi : i ≤ n) (hv : One w vb m) (hvv : v.ownBlock ≠ some vb) :
    Calls Tryz.prog 164 #[v, .int .i64 i, .slice (some ⟨vb, 0, none⟩) 1 vc] w fun e w' =>
      ∃ g cap, e = .returned (.slice (some ⟨g, 0, none⟩) (n + 1) cap) ∧ But (fun k => v.ownBlock = some k) w w' ∧ (v.ownBlock = some g ∨ w.heap.size ≤ g) ∧ w'.ownsRow 0 44 6 (.slice (some ⟨g, 0, none⟩) (n + 1) cap) (n + 1) (rowV (L.take i ++ m :: L.drop i)) := by
  rcases Nat.lt_or_ge i n with q | q
  · obtain ⟨g, cap, rfl, h1, h2, h3⟩ := row_shape h (by omega)
    rcases Nat.lt_or_ge n cap with r | r
    · refine (ins_shift g cap n i vb vc L m w h hn q r hv (fun e => hvv (by simp [Value.ownBlock, e]))).mono ?_
      rintro e w' ⟨rfl, ho, hr⟩
      exact ⟨g, cap, rfl, But.of_only ho rfl, .inl rfl, hr⟩
    · obtain rfl : cap = n := by omega
      refine (ins_grow g cap i vb vc L m w h hn hl q hv).mono ?_
      rintro e w' ⟨c2, rfl, hb, hr⟩
      exact ⟨_, c2, rfl, But.of_below hb, .inr (Nat.le_refl _), hr⟩
  · obtain rfl : i = n := by omega
    refine (ins_end v i vb vc L m w h hn hl hv).mono ?_
    rintro e w' ⟨g, cap, rfl, hg, hat, hr⟩
    refine ⟨g, cap, rfl, But.of_grown hg (fun k hk => hk), hat.imp_right (fun e => Nat.le_of_eq e.symm), ?_⟩
    rw [List.take_of_length_le (by omega), List.drop_of_length_le (by omega)]
    exact hr
set_option maxHeartbeats 1000000 in
theorem bsearchV0 (A : Option Addr) (c : Nat) (m : Mv) (w : World) :
    Calls Tryz.prog 162 #[.slice A 0 c, m.val, .func (.func 163) #[] #[]] w fun e w' => e = .returned (.tuple #[.int .i64 0, .bool false]) ∧ Below w.heap.size w w' := by
  obtain ⟨⟨ml, ct, vo, val, gn, tt⟩, B, cc⟩ := m
  have HB0 : Below w.heap.size w (w.alloc (verO ml ct vo B val.length cc gn tt)) := by (repeat' (first | (with_reducible exact Below.refl _ _) | (with_reducible assumption) | (with_reducible refine Below.trans ?_ (Below.mono (by with_reducible assumption) ?_)) | (with_reducible refine Below.alloc ?_ ?_ _) | (with_reducible refine Below.setCell ?_ ?_ _) | (with_reducible refine below_drewN ?_ _) | (with_reducible refine Below.drew ?_) | go_size))
  go_enter Tryz.func162, Tryz.ntmps162
  go_wp2
  refine wp_loop_rounds 1 ?_
  rw [rounds_succ]
  go_wp2_with fail
  refine wp_region_quiet_below (by kernel_rfl) (by kernel_rfl) ?_
  repeat (go_big_quiet_step ((go_at_call 163; exact HX)))
  refine wpQuiet_nil ?_
  intro _ hw'
  obtain ⟨⟨dq, osq⟩, hw''⟩ := hw'
  subst hw''
  have HB1 := HB0.trans ((below_regrown _ dq osq).mono HB0.size)
  go_wp2
  go_ret2
  exact ⟨rfl, HB1⟩
set_option maxHeartbeats 1000000 in
theorem bsearchT0 (A : Option Addr) (c : Nat) (tm tc : Int) (w : World) :
    Calls Tryz.prog 165 #[.slice A 0 c, .agg #[.int .i64 tm, .int .i64 tc], .func (.func 166) #[] #[]] w fun e w' => e = .returned (.tuple #[.int .i64 0, .bool false]) ∧ Below w.heap.size w w' := by
  have HB0 : Below w.heap.size w (w.alloc (.cells #[.int .i64 tm, .int .i64 tc] 25)) := by (repeat' (first | (with_reducible exact Below.refl _ _) | (with_reducible assumption) | (with_reducible refine Below.trans ?_ (Below.mono (by with_reducible assumption) ?_)) | (with_reducible refine Below.alloc ?_ ?_ _) | (with_reducible refine Below.setCell ?_ ?_ _) | (with_reducible refine below_drewN ?_ _) | (with_reducible refine Below.drew ?_) | go_size))
  go_enter Tryz.func165, Tryz.ntmps165
  go_wp2
  refine wp_loop_rounds 1 ?_
  rw [rounds_succ]
  go_wp2_with fail
  refine wp_region_quiet_below (by kernel_rfl) (by kernel_rfl) ?_
  repeat (go_big_quiet_step ((go_at_call 166; exact HX)))
  refine wpQuiet_nil ?_
  intro _ hw'
  obtain ⟨⟨dq, osq⟩, hw''⟩ := hw'
  subst hw''
  have HB1 := HB0.trans ((below_regrown _ dq osq).mono HB0.size)
  go_wp2
  go_ret2
  exact ⟨rfl, HB1⟩
/-- The search in any row. -/
theorem find_v (v : Value) (L : List Mv) (m : Mv) (k : Nat) (bb : Bool) (w : World) (h : w.ownsRow 0 44 6 v L.length (rowV L)) (hl : L.length ≤ 1000000) (hs : StandV L (fun x => cmpV x m.v < 0) k) (ha : HasV L m.v k bb) :
    Calls Tryz.prog 162 #[v, m.val, .func (.func 163) #[] #[]] w fun e w' => e = .returned (.tuple #[.int .i64 k, .bool bb]) ∧ Below w.heap.size w w' := by
  rcases Nat.eq_zero_or_pos L.length with q | q
  · obtain ⟨A, c, rfl⟩ := row_shapeV h
    have hk : k = 0 := by have := hs.le; omega
    have hb : bb = false := by
      cases bb with
      | false => rfl
      | true => obtain ⟨x, hx, _⟩ := ha.1 rfl; have := (List.getElem?_eq_some_iff.1 hx).1; omega
    subst hk hb
    rw [q]
    exact bsearchV0 A c m w
  · obtain ⟨g, cap, rfl, _⟩ := row_shape h q
    exact bsearchV g cap L.length L m k bb w h rfl hl hs ha q
theorem find_t (v : Value) (L : List Mv) (tm tc : Int) (k : Nat) (w : World) (h : w.ownsRow 0 44 6 v L.length (rowV L)) (hl : L.length ≤ 1000000) (hs : StandV L (fun x => cmp2 x.ml x.ct tm tc ≤ 0) k) :
    Calls Tryz.prog 165 #[v, .agg #[.int .i64 tm, .int .i64 tc], .func (.func 166) #[] #[]] w fun e w' => e = .returned (.tuple #[.int .i64 k, .bool false]) ∧ Below w.heap.size w w' := by
  rcases Nat.eq_zero_or_pos L.length with q | q
  · obtain ⟨A, c, rfl⟩ := row_shapeV h
    have hk : k = 0 := by have := hs.le; omega
    subst hk
    rw [q]
    exact bsearchT0 A c tm tc w
  · obtain ⟨g, cap, rfl, _⟩ := row_shape h q
    exact bsearchT g cap L.length L tm tc k w h rfl hl hs q
set_option maxHeartbeats 4000000 in
theorem ch_upTo (P : Nat → Prop) (b : Nat) (v : Value) (L : List Mv) (tm tc : Int) (k : Nat) (w : World) (h : Ch P w b v L) (hl : L.length ≤ 1000000) (hs : StandV L (fun x => cmp2 x.ml x.ct tm tc ≤ 0) k) :
    Calls Tryz.prog 114 #[.pointer (some ⟨b, 0, none⟩), .agg #[.int .i64 tm, .int .i64 tc]] w fun e w' => e = .returned (.int .i64 k) ∧ Below w.heap.size w w' := by
  have HB0 : Below w.heap.size w (w.alloc (.cells #[.int .i64 tm, .int .i64 tc] 25)) := by (repeat' (first | (with_reducible exact Below.refl _ _) | (with_reducible assumption) | (with_reducible refine Below.trans ?_ (Below.mono (by with_reducible assumption) ?_)) | (with_reducible refine Below.alloc ?_ ?_ _) | (with_reducible refine Below.setCell ?_ ?_ _) | (with_reducible refine below_drewN ?_ _) | (with_reducible refine Below.drew ?_) | go_size))
  have h1 := h.alloc (.cells #[.int .i64 tm, .int .i64 tc] 25)
  have hr := h1.row
  have HFT := Lib.hid (fun W (hb : Below (w.alloc (.cells #[.int .i64 tm, .int .i64 tc] 25)).heap.size (w.alloc (.cells #[.int .i64 tm, .int .i64 tc] 25)) W) => find_t v L tm tc k W (row_below hr hb) hl hs)
  obtain ⟨A, c, rfl⟩ := h.shape
  have c0 := h1.c0
  have s0 : (w.alloc (.cells #[.int .i64 tm, .int .i64 tc] 25)).cell? ⟨w.heap.size, 0, none⟩ = some (.int .i64 tm) := by simp
  have s1 : (w.alloc (.cells #[.int .i64 tm, .int .i64 tc] 25)).cell? ⟨w.heap.size, 1, none⟩ = some (.int .i64 tc) := by simp
  have kc0 := fun d os => cell_regrown c0 d os
  have ks0 := fun d os => cell_regrown s0 d os
  have ks1 := fun d os => cell_regrown s1 d os
  have AC := Lib.hid fun (d' : Nat) (os : Array Obj) => Calls.regrown_of (HFT.out (grow (redrawn (w.alloc (.cells #[.int .i64 tm, .int .i64 tc] 25)) d') os) (below_regrown _ d' os))
  clear h h1 hr hl hs c0 s0 s1 HFT
  generalize L.length = n at *
  go_enter Tryz.func114, Tryz.ntmps114
  go_wp2_with fail
  refine wp_region_quiet_below (by kernel_rfl) (by kernel_rfl) ?_
  repeat (go_big_quiet_step ((go_at_call 165; exact AC.out _ _)))
  refine wpQuiet_nil ?_
  intro _ hw'
  obtain ⟨⟨dq, osq⟩, hw''⟩ := hw'
  subst hw''
  have HB1 := HB0.trans ((below_regrown _ dq osq).mono HB0.size)
  go_wp2
  go_ret
  exact ⟨rfl, HB1⟩
end Go.Proofs.YtpflbhcgkndpcaaGreatDoor

/- A chain: Put, three ways. -/
namespace Go.Proofs.YtpflbhcgkndpcaaGreatDoor
open Go.RowKit Go.Sort

def PutMore (P : Nat → Prop) (b : Nat) (v : Value) (L : List Mv) (m : Mv) (k : Nat) (w w' : World) : Prop :=
  ∃ v' A c, Ch (fun i => P i ∨ (w.heap.size ≤ i ∧ i < w'.heap.size)) w' b v' (L.take k ++ ⟨m.v, A, c⟩ :: L.drop k) ∧ But (FootC b v) w w'
set_option maxHeartbeats 4000000 in
theorem ch_put_no (P : Nat → Prop) (b : Nat) (v : Value) (L : List Mv) (m : Mv) (w : World) (ho : m.v.ok = false) :
    Calls Tryz.prog 113 #[.pointer (some ⟨b, 0, none⟩), m.val] w fun e w' => e = .returned (.int .i64 1) ∧ Below w.heap.size w w' := by
  obtain ⟨⟨ml, ct, vo, val, gn, tt⟩, A, cc⟩ := m
  have HB0 : Below w.heap.size w (w.alloc (verO ml ct vo A val.length cc gn tt)) := by (repeat' (first | (with_reducible exact Below.refl _ _) | (with_reducible assumption) | (with_reducible refine Below.trans ?_ (Below.mono (by with_reducible assumption) ?_)) | (with_reducible refine Below.alloc ?_ ?_ _) | (with_reducible refine Below.setCell ?_ ?_ _) | (with_reducible refine below_drewN ?_ _) | (with_reducible refine Below.drew ?_) | go_size))
  have HI := Lib.hid (fun W => ch_is ml ct vo A val.length cc gn tt W)
  have HE : Hid (okV ml ct vo val.length gn tt = false) := ho
  clear ho
  go_enter Tryz.func113, Tryz.ntmps113
  go_wp2_with (go_at_call 161; refine (HI.out _).mono ?_; rw [HE.out]; rintro e w1 ⟨rfl, hb1⟩)
  have HB1 := HB0.trans (hb1.mono HB0.size)
  (try go_wp2)
  go_ret
  exact ⟨rfl, HB1⟩
set_option maxHeartbeats 4000000 in
theorem ch_put_has (P : Nat → Prop) (b : Nat) (v : Value) (L : List Mv) (m : Mv) (k : Nat) (w : World) (h : Ch P w b v L) (hl : L.length ≤ 1000000) (ho : m.v.ok = true) (hs : StandV L (fun x => cmpV x m.v < 0) k) (ha : HasV L m.v k true) :
    Calls Tryz.prog 113 #[.pointer (some ⟨b, 0, none⟩), m.val] w fun e w' => e = .returned (.int .i64 8) ∧ Below w.heap.size w w' := by
  obtain ⟨⟨ml, ct, vo, val, gn, tt⟩, A, cc⟩ := m
  have HB0 : Below w.heap.size w (w.alloc (verO ml ct vo A val.length cc gn tt)) := by (repeat' (first | (with_reducible exact Below.refl _ _) | (with_reducible assumption) | (with_reducible refine Below.trans ?_ (Below.mono (by with_reducible assumption) ?_)) | (with_reducible refine Below.alloc ?_ ?_ _) | (with_reducible refine Below.setCell ?_ ?_ _) | (with_reducible refine below_drewN ?_ _) | (with_reducible refine Below.drew ?_) | go_size))
  have HI := Lib.hid (fun W => ch_is ml ct vo A val.length cc gn tt W)
  have HE : Hid (okV ml ct vo val.length gn tt = true) := ho
  have HH := Lib.hid h
  have HFV := Lib.hid (fun W (hr : W.ownsRow 0 44 6 v L.length (rowV L)) => find_v v L ⟨⟨ml, ct, vo, val, gn, tt⟩, A, cc⟩ k true W hr hl hs ha)
  obtain ⟨A0, c0, rfl⟩ := h.shape
  clear ho h hl hs ha
  go_enter Tryz.func113, Tryz.ntmps113
  go_wp2_with (go_at_call 161; refine (HI.out _).mono ?_; rw [HE.out]; rintro e w1 ⟨rfl, hb1⟩; have H1 := HH.out.below (HB0.trans (hb1.mono HB0.size)); have HB1 := Lib.hid (HB0.trans (hb1.mono HB0.size)))
  have q0 : w1.cell? ⟨w.heap.size, 0, none⟩ = some (.int .i64 ml) := (hb1.cell (p := ⟨w.heap.size, 0, none⟩) (by simp)).trans (by simp)
  have q1 : w1.cell? ⟨w.heap.size, 1, none⟩ = some (.int .i64 ct) := (hb1.cell (p := ⟨w.heap.size, 1, none⟩) (by simp)).trans (by simp)
  have q2 : w1.cell? ⟨w.heap.size, 2, none⟩ = some (.int .i64 vo) := (hb1.cell (p := ⟨w.heap.size, 2, none⟩) (by simp)).trans (by simp)
  have q3 : w1.cell? ⟨w.heap.size, 3, none⟩ = some (.slice A val.length cc) := (hb1.cell (p := ⟨w.heap.size, 3, none⟩) (by simp)).trans (by simp)
  have q4 : w1.cell? ⟨w.heap.size, 4, none⟩ = some (.bool gn) := (hb1.cell (p := ⟨w.heap.size, 4, none⟩) (by simp)).trans (by simp)
  have q5 : w1.cell? ⟨w.heap.size, 5, none⟩ = some (.int .i64 tt) := (hb1.cell (p := ⟨w.heap.size, 5, none⟩) (by simp)).trans (by simp)
  have p0 := H1.c0
  have hr := H1.row
  have AC := Lib.hid fun (d' : Nat) (os : Array Obj) => Calls.regrown_of (HFV.out (grow (redrawn w1 d') os) (row_below hr (below_regrown w1 d' os)))
  have kq0 := fun d os => cell_regrown q0 d os
  have kq1 := fun d os => cell_regrown q1 d os
  have kq2 := fun d os => cell_regrown q2 d os
  have kq3 := fun d os => cell_regrown q3 d os
  have kq4 := fun d os => cell_regrown q4 d os
  have kq5 := fun d os => cell_regrown q5 d os
  have kp0 := fun d os => cell_regrown p0 d os
  clear q0 q1 q2 q3 q4 q5 p0 hr H1 hb1 HH HFV HI HE
  go_wp2_with fail
  refine wp_region_quiet_below (by kernel_rfl) (by kernel_rfl) ?_
  repeat (go_big_quiet_step ((go_at_call 162; exact AC.out _ _)))
  refine wpQuiet_nil ?_
  intro _ hw'
  obtain ⟨⟨dq, osq⟩, hw''⟩ := hw'
  subst hw''
  have HB2 := HB1.out.trans ((below_regrown w1 dq osq).mono HB1.out.size)
  go_wp2
  go_ret
  exact ⟨rfl, HB2⟩
theorem put_fin {P : Nat → Prop} {b : Nat} {v : Value} {L : List Mv} {m : Mv} {k : Nat} {w V2 V3 : World} {A1 : Option Addr} {c1 B g cap : Nat} (h0 : Ch P w b v L) (h2 : Ch P V2 b v L) (hb : Below w.heap.size w V2)
    (ho : V2.ownsRow B 5 1 (.slice A1 m.v.val.length c1) m.v.val.length (bC m.v.val)) (hB : w.heap.size ≤ B) (hy : isBy m.v.val) (hk : k ≤ L.length)
    (hbut : But (fun k => v.ownBlock = some k) V2 V3) (hat : v.ownBlock = some g ∨ V2.heap.size ≤ g) (hrow : V3.ownsRow 0 44 6 (.slice (some ⟨g, 0, none⟩) (L.length + 1) cap) (L.length + 1) (rowV (L.take k ++ ⟨m.v, A1, c1⟩ :: L.drop k))) :
    PutMore P b v L m k w (V3.setCell ⟨b, 0, none⟩ (.slice (some ⟨g, 0, none⟩) (L.length + 1) cap)) := by
  have hbl := h0.lt
  have hz := hb.size
  have hz3 := hbut.size
  have hvb : ∀ i, v.ownBlock = some i → i < w.heap.size := fun i hi => (World.ownsRow.lt h0.row i hi).2
  have hgb : g ≠ b := fun e => by
    subst e
    rcases hat with q | q
    · exact h0.ne q
    · omega
  have hgl : g < V3.heap.size := (World.ownsRow.lt hrow g rfl).2
  have hlen : (L.take k ++ (⟨m.v, A1, c1⟩ : Mv) :: L.drop k).length = L.length + 1 := by simp; omega
  have hO : But (fun i => i = b) V3 (V3.setCell ⟨b, 0, none⟩ (.slice (some ⟨g, 0, none⟩) (L.length + 1) cap)) := But.of_only ((Only.refl b V3).setB _) rfl
  have hc3 : V3.cell? ⟨b, 0, none⟩ = some v := (hbut.cell b 0 h2.lt h2.ne).trans h2.c0
  obtain ⟨A', c', e, _, hby, hn1, hq1⟩ := own8_shape ho
  injection e with e1 e2 e3
  subst e1 e3
  have hnb : ∀ i, (Value.slice (some ⟨g, 0, none⟩) (L.length + 1) cap).ownBlock = some i → i = g := fun i hi => by simpa [Value.ownBlock] using hi.symm
  refine ⟨_, A1, c1, ⟨World.cell?_setCell_same _ _ _ hc3, by rw [World.frozen?_setCell, hbut.frozen b 0 h2.lt h2.ne]; exact h2.f0, by simpa [World.setCell] using Nat.lt_of_lt_of_le h2.lt hz3, ?_, fun e => hgb (hnb _ e).symm, .inl h0.pb, fun i hi => ?_, fun x hx => ?_⟩, ?_⟩
  · rw [hlen]
    exact hO.row hrow (fun i hi e => hgb ((hnb _ hi).symm.trans e))
  · obtain rfl := hnb _ hi
    rcases hat with q | q
    · exact .inl (h0.pv _ q)
    · exact .inr ⟨by omega, by simpa [World.setCell] using hgl⟩
  · have key : ∀ (x : Mv) (Q : Nat → Prop), x.At Q V2 → (∀ i, i < V2.heap.size → Q i → v.ownBlock ≠ some i ∧ i ≠ b ∧ (P i ∨ w.heap.size ≤ i)) → x.At (fun i => (P i ∨ (w.heap.size ≤ i ∧ i < (V3.setCell ⟨b, 0, none⟩ (.slice (some ⟨g, 0, none⟩) (L.length + 1) cap)).heap.size)) ∧ i ≠ b ∧ (Value.slice (some ⟨g, 0, none⟩) (L.length + 1) cap).ownBlock ≠ some i) (V3.setCell ⟨b, 0, none⟩ (.slice (some ⟨g, 0, none⟩) (L.length + 1) cap)) := fun x Q hx hq => by
      have h1 := hx.mono (Q' := fun i => (v.ownBlock ≠ some i ∧ i ≠ b ∧ (P i ∨ w.heap.size ≤ i)) ∧ i < V2.heap.size) (fun i hi hh => ⟨hq i hi hh, hi⟩)
      have h2 := (h1.but hbut (fun i hi hh => hh.1.1 hi)).but hO (fun i hi hh => hh.1.2.1 hi)
      refine h2.mono (fun i _ hh => ⟨hh.1.2.2.imp_right (fun q => ⟨q, by have := hh.2; simp [World.setCell]; omega⟩), hh.1.2.1, fun e => ?_⟩)
      have eg := hnb _ e
      rcases hat with q | q
      · exact hh.1.1 (eg ▸ q)
      · have := hh.2; omega
    rcases List.mem_append.1 hx with q | q
    · exact key x _ (h2.ats x (List.mem_of_mem_take q)) (fun i _ hq => ⟨hq.2.2, hq.2.1, .inl hq.1⟩)
    · rcases List.mem_cons.1 q with rfl | q
      · refine key _ (fun i => w.heap.size ≤ i) ⟨hby, hn1, fun _ ad had => Nat.le_trans hB (hq1 ad had).1, hy⟩ (fun i hi hq => ⟨fun e => ?_, fun e => ?_, .inr hq⟩)
        · have := hvb _ e; omega
        · omega
      · exact key x _ (h2.ats x (List.mem_of_mem_drop q)) (fun i _ hq => ⟨hq.2.2, hq.2.1, .inl hq.1⟩)
  · exact ((But.of_below (S := FootC b v) (hb.mono (Nat.le_refl _))).trans hbut (fun i _ hi => .inr hi)).trans hO (fun i _ hi => .inl hi)
set_option maxRecDepth 100000 in
set_option maxHeartbeats 8000000 in
theorem ch_put_ok (P : Nat → Prop) (b : Nat) (v : Value) (L : List Mv) (m : Mv) (k : Nat) (w : World) (h : Ch P w b v L) (hl : L.length ≤ 1000000) (ho : m.v.ok = true) (hs : StandV L (fun x => cmpV x m.v < 0) k) (ha : HasV L m.v k false)
    (hp : ByL w m.A m.v.val) (hn : m.A = none → m.v.val.length = 0) (hy : isBy m.v.val) (hvl : m.v.val.length ≤ 100000) :
    Calls Tryz.prog 113 #[.pointer (some ⟨b, 0, none⟩), m.val] w fun e w' => e = .returned (.int .i64 0) ∧ PutMore P b v L m k w w' := by
  obtain ⟨⟨ml, ct, vo, val, gn, tt⟩, A, cc⟩ := m
  have HB0 : Below w.heap.size w (w.alloc (verO ml ct vo A val.length cc gn tt)) := by (repeat' (first | (with_reducible exact Below.refl _ _) | (with_reducible assumption) | (with_reducible refine Below.trans ?_ (Below.mono (by with_reducible assumption) ?_)) | (with_reducible refine Below.alloc ?_ ?_ _) | (with_reducible refine Below.setCell ?_ ?_ _) | (with_reducible refine below_drewN ?_ _) | (with_reducible refine Below.drew ?_) | go_size))
  have HI := Lib.hid (fun W => ch_is ml ct vo A val.length cc gn tt W)
  have HE : Hid (okV ml ct vo val.length gn tt = true) := ho
  have HH := Lib.hid h
  have HP := Lib.hid hp
  have hkl := hs.le
  have HFV := Lib.hid (fun W (hr : W.ownsRow 0 44 6 v L.length (rowV L)) => find_v v L ⟨⟨ml, ct, vo, val, gn, tt⟩, A, cc⟩ k false W hr hl hs ha)
  have HCP := Lib.hid (fun W (hpw : ByL W A val) => ch_copied ⟨⟨ml, ct, vo, val, gn, tt⟩, A, cc⟩ W hpw hn hvl)
  have HIN := Lib.hid (fun W (vb vc : Nat) (m : Mv) (hr : W.ownsRow 0 44 6 v L.length (rowV L)) (hv : One W vb m) (hvv : v.ownBlock ≠ some vb) => ver_insert v L.length k vb vc L m W hr rfl hl hkl hv hvv)
  obtain ⟨A0, c0, rfl⟩ := h.shape
  clear ho h hs ha hp hn hvl
  go_enter Tryz.func113, Tryz.ntmps113
  go_wp2_with (go_at_call 161; refine (HI.out _).mono ?_; rw [HE.out]; rintro e w1 ⟨rfl, hb1⟩; have H1 := HH.out.below (HB0.trans (hb1.mono HB0.size)); have HB1 := Lib.hid (HB0.trans (hb1.mono HB0.size)))
  have q0 : w1.cell? ⟨w.heap.size, 0, none⟩ = some (.int .i64 ml) := (hb1.cell (p := ⟨w.heap.size, 0, none⟩) (by simp)).trans (by simp)
  have q1 : w1.cell? ⟨w.heap.size, 1, none⟩ = some (.int .i64 ct) := (hb1.cell (p := ⟨w.heap.size, 1, none⟩) (by simp)).trans (by simp)
  have q2 : w1.cell? ⟨w.heap.size, 2, none⟩ = some (.int .i64 vo) := (hb1.cell (p := ⟨w.heap.size, 2, none⟩) (by simp)).trans (by simp)
  have q3 : w1.cell? ⟨w.heap.size, 3, none⟩ = some (.slice A val.length cc) := (hb1.cell (p := ⟨w.heap.size, 3, none⟩) (by simp)).trans (by simp)
  have q4 : w1.cell? ⟨w.heap.size, 4, none⟩ = some (.bool gn) := (hb1.cell (p := ⟨w.heap.size, 4, none⟩) (by simp)).trans (by simp)
  have q5 : w1.cell? ⟨w.heap.size, 5, none⟩ = some (.int .i64 tt) := (hb1.cell (p := ⟨w.heap.size, 5, none⟩) (by simp)).trans (by simp)
  have p0 := H1.c0
  have hr := H1.row
  have AC := Lib.hid fun (d' : Nat) (os : Array Obj) => Calls.regrown_of (HFV.out (grow (redrawn w1 d') os) (row_below hr (below_regrown w1 d' os)))
  have kq0 := fun d os => cell_regrown q0 d os
  have kq1 := fun d os => cell_regrown q1 d os
  have kq2 := fun d os => cell_regrown q2 d os
  have kq3 := fun d os => cell_regrown q3 d os
  have kq4 := fun d os => cell_regrown q4 d os
  have kq5 := fun d os => cell_regrown q5 d os
  have kp0 := fun d os => cell_regrown p0 d os
  clear hr hb1 HFV HI HE
  go_wp2_with fail
  refine wp_region_quiet_below (by kernel_rfl) (by kernel_rfl) ?_
  repeat (go_big_quiet_step ((go_at_call 162; exact AC.out _ _)))
  refine wpQuiet_nil ?_
  intro _ hw'
  obtain ⟨⟨dq, osq⟩, hw''⟩ := hw'
  subst hw''
  have HB2 := Lib.hid (HB1.out.trans ((below_regrown w1 dq osq).mono HB1.out.size))
  have q0' := kq0 dq osq
  have q1' := kq1 dq osq
  have q2' := kq2 dq osq
  have q3' := kq3 dq osq
  have q4' := kq4 dq osq
  have q5' := kq5 dq osq
  have p0' := kp0 dq osq
  have lw : w.heap.size < (grow (redrawn w1 dq) osq).heap.size := block_lt_of_cell q0'
  have H2 := Lib.hid (HH.out.below HB2.out)
  clear q0 q1 q2 q3 q4 q5 p0 kq0 kq1 kq2 kq3 kq4 kq5 kp0 H1 HB1 AC
  generalize grow (redrawn w1 dq) osq = w2 at *
  go_wp2_with fail
  have HB3 := Lib.hid (HB2.out.drew)
  have H3 := Lib.hid (H2.out.below (Below.drew (Below.refl _ w2)))
  have HP3 := Lib.hid (HP.out.below HB2.out |>.drew)
  have r0 : w2.drew.cell? ⟨w.heap.size, 0, none⟩ = some (.int .i64 ml) := q0'
  have r1 : w2.drew.cell? ⟨w.heap.size, 1, none⟩ = some (.int .i64 ct) := q1'
  have r2 : w2.drew.cell? ⟨w.heap.size, 2, none⟩ = some (.int .i64 vo) := q2'
  have r3 : w2.drew.cell? ⟨w.heap.size, 3, none⟩ = some (.slice A val.length cc) := q3'
  have r4 : w2.drew.cell? ⟨w.heap.size, 4, none⟩ = some (.bool gn) := q4'
  have r5 : w2.drew.cell? ⟨w.heap.size, 5, none⟩ = some (.int .i64 tt) := q5'
  have p0 : w2.drew.cell? ⟨b, 0, none⟩ = some (.slice A0 L.length c0) := p0'
  have lw3 : w.heap.size < w2.drew.heap.size := lw
  clear HB2 H2 q0' q1' q2' q3' q4' q5' p0' lw HP HB0
  refine wp_region_held_drew (S := fun w' => w'.cell? ⟨w.heap.size, 0, none⟩ = some (.int .i64 ml) ∧ w'.cell? ⟨w.heap.size, 1, none⟩ = some (.int .i64 ct) ∧ w'.cell? ⟨w.heap.size, 2, none⟩ = some (.int .i64 vo) ∧ w'.cell? ⟨w.heap.size, 3, none⟩ = some (.slice A val.length cc) ∧ w'.cell? ⟨w.heap.size, 4, none⟩ = some (.bool gn) ∧ w'.cell? ⟨w.heap.size, 5, none⟩ = some (.int .i64 tt)) (by kernel_rfl) ?_ (fun hHeld => ?_)
  · exact ⟨r0, r1, r2, r3, r4, r5⟩
  generalize w2.drew = V0 at *
  refine wpAnyH_take (i := 0) (v := ?_) rfl (by kernel_rfl) (by kernel_rfl) (by kernel_rfl) (fun _ _ _ h => h) (Or.inl ⟨by rfl, ?_⟩) (by assumption) ?_
  rotate_left
  · intro w' hSw; (try dsimp only at hSw); go_simp; (try with_reducible rfl)
  (try simp only [Act.put, List.setIfInBounds_toArray, List.set_cons_zero, List.set_cons_succ, List.getElem_toArray, List.getElem_cons_succ, List.getElem_cons_zero])
  refine wpAnyH_take (i := 1) (v := ?_) rfl (by kernel_rfl) (by kernel_rfl) (by kernel_rfl) (fun _ _ _ h => h) (Or.inl ⟨by rfl, ?_⟩) (by assumption) ?_
  rotate_left
  · intro w' hSw; (try dsimp only at hSw); go_simp; (try with_reducible rfl)
  (try simp only [Act.put, List.setIfInBounds_toArray, List.set_cons_zero, List.set_cons_succ, List.getElem_toArray, List.getElem_cons_succ, List.getElem_cons_zero])
  refine wpAnyH_take (i := 2) (v := ?_) rfl (by kernel_rfl) (by kernel_rfl) (by kernel_rfl) (fun _ _ _ h => h) (Or.inl ⟨by rfl, ?_⟩) (by assumption) ?_
  rotate_left
  · intro w' hSw; (try dsimp only at hSw); go_simp; (try with_reducible rfl)
  (try simp only [Act.put, List.setIfInBounds_toArray, List.set_cons_zero, List.set_cons_succ, List.getElem_toArray, List.getElem_cons_succ, List.getElem_cons_zero])
  refine wpAnyH_take (i := 3) (v := ?_) rfl (by kernel_rfl) (by kernel_rfl) (by kernel_rfl) (fun _ _ _ h => h) (Or.inl ⟨by rfl, ?_⟩) (by assumption) ?_
  rotate_left
  · intro w' hSw; (try dsimp only at hSw); go_simp; (try with_reducible rfl)
  (try simp only [Act.put, List.setIfInBounds_toArray, List.set_cons_zero, List.set_cons_succ, List.getElem_toArray, List.getElem_cons_succ, List.getElem_cons_zero])
  refine wpAnyH_take (i := 5) (v := ?_) rfl (by kernel_rfl) (by kernel_rfl) (by kernel_rfl) (fun _ _ _ h => h) (Or.inl ⟨by rfl, ?_⟩) (by assumption) ?_
  rotate_left
  · intro w' hSw; (try dsimp only at hSw); go_simp; (try with_reducible rfl)
  (try simp only [Act.put, List.setIfInBounds_toArray, List.set_cons_zero, List.set_cons_succ, List.getElem_toArray, List.getElem_cons_succ, List.getElem_cons_zero])
  refine wpAnyH_take (i := 6) (v := ?_) rfl (by kernel_rfl) (by kernel_rfl) (by kernel_rfl) (fun _ _ _ h => h) (Or.inl ⟨by rfl, ?_⟩) (by assumption) ?_
  rotate_left
  · intro w' hSw; (try dsimp only at hSw); go_simp; (try with_reducible rfl)
  (try simp only [Act.put, List.setIfInBounds_toArray, List.set_cons_zero, List.set_cons_succ, List.getElem_toArray, List.getElem_cons_succ, List.getElem_cons_zero])
  refine wpAnyH_ready (rs := [4, 7]) (by kernel_rfl) (by simp) ?_
  refine AllReadyH.cons rfl (fun K hK => ?_) (AllReadyH.cons rfl (fun K hK => ?_) (AllReadyH.nil))
  · skip
    go_simp
    (try dsimp only)
    refine hK.out _ _ ?_ (fun hHeld => ?_)
    · exact ⟨r0, r1, r2, r3, r4, r5⟩
    clear hK K
    (try simp only [Act.put, List.setIfInBounds_toArray, List.set_cons_zero, List.set_cons_succ, List.getElem_toArray, List.getElem_cons_succ, List.getElem_cons_zero])
    refine wpAnyH_ready (rs := [7]) (by kernel_rfl) (by simp) ?_
    refine AllReadyH.cons rfl (fun K hK => ?_) (AllReadyH.nil)
    go_simp
    (go_at_call 133; refine (HCP.out _ HP3.out).mono ?_; rintro e V1 ⟨A1, k1, rfl, ho1, hb1⟩)
    have r0 : V1.cell? ⟨w.heap.size, 0, none⟩ = some (.int .i64 ml) := (hb1.cell (p := ⟨w.heap.size, 0, none⟩) lw3).trans r0
    have r1 : V1.cell? ⟨w.heap.size, 1, none⟩ = some (.int .i64 ct) := (hb1.cell (p := ⟨w.heap.size, 1, none⟩) lw3).trans r1
    have r2 : V1.cell? ⟨w.heap.size, 2, none⟩ = some (.int .i64 vo) := (hb1.cell (p := ⟨w.heap.size, 2, none⟩) lw3).trans r2
    have r3 : V1.cell? ⟨w.heap.size, 3, none⟩ = some (.slice A val.length cc) := (hb1.cell (p := ⟨w.heap.size, 3, none⟩) lw3).trans r3
    have r4 : V1.cell? ⟨w.heap.size, 4, none⟩ = some (.bool gn) := (hb1.cell (p := ⟨w.heap.size, 4, none⟩) lw3).trans r4
    have r5 : V1.cell? ⟨w.heap.size, 5, none⟩ = some (.int .i64 tt) := (hb1.cell (p := ⟨w.heap.size, 5, none⟩) lw3).trans r5
    have HO1 := Lib.hid (own_base (base' := w.heap.size) HB3.out.size ho1)
    have H3 := Lib.hid (H3.out.below hb1)
    have HB3 := Lib.hid (HB3.out.trans (hb1.mono HB3.out.size))
    have p0 : V1.cell? ⟨b, 0, none⟩ = some (.slice A0 L.length c0) := H3.out.c0
    have lw3 : w.heap.size < V1.heap.size := Nat.lt_of_lt_of_le lw3 hb1.size
    clear hb1 ho1
    (try dsimp only)
    refine hK.out _ _ ?_ (fun hHeld => ?_)
    · exact ⟨r0, r1, r2, r3, r4, r5⟩
    clear hK K
    (try simp only [Act.put, List.setIfInBounds_toArray, List.set_cons_zero, List.set_cons_succ, List.getElem_toArray, List.getElem_cons_succ, List.getElem_cons_zero])
    refine wpAnyH_ready (rs := [8]) (by kernel_rfl) (by simp) ?_
    refine AllReadyH.cons rfl (fun K hK => ?_) (AllReadyH.nil)
    go_simp
    have HONE : Hid (One (V1.alloc (.cells #[.int .i64 ml, .int .i64 ct, .int .i64 vo, .slice A1 val.length k1, .bool gn, .int .i64 tt] 44)) V1.heap.size ⟨⟨ml, ct, vo, val, gn, tt⟩, A1, k1⟩) := Lib.hid (heap_alloc_new V1 _)
    have hba : Below V1.heap.size V1 (V1.alloc (.cells #[.int .i64 ml, .int .i64 ct, .int .i64 vo, .slice A1 val.length k1, .bool gn, .int .i64 tt] 44)) := (Below.refl _ _).alloc (Nat.le_refl _) _
    have r0 : (V1.alloc (.cells #[.int .i64 ml, .int .i64 ct, .int .i64 vo, .slice A1 val.length k1, .bool gn, .int .i64 tt] 44)).cell? ⟨w.heap.size, 0, none⟩ = some (.int .i64 ml) := (hba.cell (p := ⟨w.heap.size, 0, none⟩) lw3).trans r0
    have r1 : (V1.alloc (.cells #[.int .i64 ml, .int .i64 ct, .int .i64 vo, .slice A1 val.length k1, .bool gn, .int .i64 tt] 44)).cell? ⟨w.heap.size, 1, none⟩ = some (.int .i64 ct) := (hba.cell (p := ⟨w.heap.size, 1, none⟩) lw3).trans r1
    have r2 : (V1.alloc (.cells #[.int .i64 ml, .int .i64 ct, .int .i64 vo, .slice A1 val.length k1, .bool gn, .int .i64 tt] 44)).cell? ⟨w.heap.size, 2, none⟩ = some (.int .i64 vo) := (hba.cell (p := ⟨w.heap.size, 2, none⟩) lw3).trans r2
    have r3 : (V1.alloc (.cells #[.int .i64 ml, .int .i64 ct, .int .i64 vo, .slice A1 val.length k1, .bool gn, .int .i64 tt] 44)).cell? ⟨w.heap.size, 3, none⟩ = some (.slice A val.length cc) := (hba.cell (p := ⟨w.heap.size, 3, none⟩) lw3).trans r3
    have r4 : (V1.alloc (.cells #[.int .i64 ml, .int .i64 ct, .int .i64 vo, .slice A1 val.length k1, .bool gn, .int .i64 tt] 44)).cell? ⟨w.heap.size, 4, none⟩ = some (.bool gn) := (hba.cell (p := ⟨w.heap.size, 4, none⟩) lw3).trans r4
    have r5 : (V1.alloc (.cells #[.int .i64 ml, .int .i64 ct, .int .i64 vo, .slice A1 val.length k1, .bool gn, .int .i64 tt] 44)).cell? ⟨w.heap.size, 5, none⟩ = some (.int .i64 tt) := (hba.cell (p := ⟨w.heap.size, 5, none⟩) lw3).trans r5
    have HNB : Hid ((Value.slice A0 L.length c0).ownBlock ≠ some V1.heap.size) := Lib.hid (fun e => by have := (World.ownsRow.lt H3.out.row _ e).2; omega)
    have HO1 := Lib.hid (row_below HO1.out hba)
    have H3 := Lib.hid (H3.out.below hba)
    have HB3 := Lib.hid (HB3.out.trans (hba.mono HB3.out.size))
    have p0 : (V1.alloc (.cells #[.int .i64 ml, .int .i64 ct, .int .i64 vo, .slice A1 val.length k1, .bool gn, .int .i64 tt] 44)).cell? ⟨b, 0, none⟩ = some (.slice A0 L.length c0) := H3.out.c0
    have lw3 : w.heap.size < (V1.alloc (.cells #[.int .i64 ml, .int .i64 ct, .int .i64 vo, .slice A1 val.length k1, .bool gn, .int .i64 tt] 44)).heap.size := Nat.lt_of_lt_of_le lw3 hba.size
    clear hba
    generalize V1.heap.size = vb at *
    generalize V1.alloc (.cells #[.int .i64 ml, .int .i64 ct, .int .i64 vo, .slice A1 val.length k1, .bool gn, .int .i64 tt] 44) = V2 at *
    (try dsimp only)
    refine hK.out _ _ ?_ (fun hHeld => ?_)
    · exact ⟨r0, r1, r2, r3, r4, r5⟩
    clear hK K
    (try simp only [Act.put, List.setIfInBounds_toArray, List.set_cons_zero, List.set_cons_succ, List.getElem_toArray, List.getElem_cons_succ, List.getElem_cons_zero])
    refine wpAnyH_ready (rs := [9]) (by kernel_rfl) (by simp) ?_
    refine AllReadyH.cons rfl (fun K hK => ?_) (AllReadyH.nil)
    go_simp
    (go_at_call 164; refine (HIN.out _ vb 1 ⟨⟨ml, ct, vo, val, gn, tt⟩, A1, k1⟩ H3.out.row HONE.out HNB.out).mono ?_; rintro e V3 ⟨g, cap, rfl, hbut, hat, hrow⟩)
    have nb : ¬ (Value.slice A0 L.length c0).ownBlock = some w.heap.size := fun e => by have := (World.ownsRow.lt HH.out.row _ e).2; omega
    have r0 : V3.cell? ⟨w.heap.size, 0, none⟩ = some (.int .i64 ml) := (hbut.cell _ _ lw3 nb).trans r0
    have r1 : V3.cell? ⟨w.heap.size, 1, none⟩ = some (.int .i64 ct) := (hbut.cell _ _ lw3 nb).trans r1
    have r2 : V3.cell? ⟨w.heap.size, 2, none⟩ = some (.int .i64 vo) := (hbut.cell _ _ lw3 nb).trans r2
    have r3 : V3.cell? ⟨w.heap.size, 3, none⟩ = some (.slice A val.length cc) := (hbut.cell _ _ lw3 nb).trans r3
    have r4 : V3.cell? ⟨w.heap.size, 4, none⟩ = some (.bool gn) := (hbut.cell _ _ lw3 nb).trans r4
    have r5 : V3.cell? ⟨w.heap.size, 5, none⟩ = some (.int .i64 tt) := (hbut.cell _ _ lw3 nb).trans r5
    have p3 : V3.cell? ⟨b, 0, none⟩ = some (.slice A0 L.length c0) := (hbut.cell _ _ H3.out.lt H3.out.ne).trans p0
    have f3 : V3.frozen? ⟨b, 0, none⟩ = false := (hbut.frozen _ _ H3.out.lt H3.out.ne).trans H3.out.f0
    have bw : b ≠ w.heap.size := by have := HH.out.lt; omega
    have HFIN := Lib.hid (put_fin (m := ⟨⟨ml, ct, vo, val, gn, tt⟩, A, cc⟩) HH.out H3.out HB3.out HO1.out (Nat.le_refl _) hy hkl hbut hat hrow)
    clear hbut hat hrow nb
    (try dsimp only)
    refine hK.out _ _ ?_ (fun hHeld => ?_)
    · exact ⟨r0, r1, r2, r3, r4, r5⟩
    clear hK K
    (try simp only [Act.put, List.setIfInBounds_toArray, List.set_cons_zero, List.set_cons_succ, List.getElem_toArray, List.getElem_cons_succ, List.getElem_cons_zero])
    refine wpAnyH_take (i := 10) (v := ?_) rfl (by kernel_rfl) (by kernel_rfl) (by kernel_rfl) (fun _ _ _ h => h) (Or.inl ⟨by rfl, ?_⟩) (by assumption) ?_
    rotate_left
    · intro w' hSw; (try dsimp only at hSw); go_simp; (try with_reducible rfl)
    (try simp only [Act.put, List.setIfInBounds_toArray, List.set_cons_zero, List.set_cons_succ, List.getElem_toArray, List.getElem_cons_succ, List.getElem_cons_zero])
    refine wpAnyH_take (i := 11) (v := ?_) rfl (by kernel_rfl) (by kernel_rfl) (by kernel_rfl) (fun _ _ _ h => h) (Or.inl ⟨by rfl, ?_⟩) (by assumption) ?_
    rotate_left
    · intro w' hSw; (try dsimp only at hSw); go_simp; (try with_reducible rfl)
    (try simp only [Act.put, List.setIfInBounds_toArray, List.set_cons_zero, List.set_cons_succ, List.getElem_toArray, List.getElem_cons_succ, List.getElem_cons_zero])
    refine wpAnyH_ready (rs := [12]) (by kernel_rfl) (by simp) ?_
    refine AllReadyH.cons rfl (fun K hK => ?_) (AllReadyH.nil)
    go_simp
    have hne : ∀ o, (V3.setCell ⟨b, 0, none⟩ (.slice (some ⟨g, 0, none⟩) (L.length + 1) cap)).cell? ⟨w.heap.size, o, none⟩ = V3.cell? ⟨w.heap.size, o, none⟩ := fun o => World.cell?_setCell_other _ _ _ _ (fun e => bw (congrArg Addr.block e))
    (try dsimp only)
    refine hK.out _ _ ?_ (fun hHeld => ?_)
    · exact ⟨(hne 0).trans r0, (hne 1).trans r1, (hne 2).trans r2, (hne 3).trans r3, (hne 4).trans r4, (hne 5).trans r5⟩
    clear hK K
    (try simp only [Act.put, List.setIfInBounds_toArray, List.set_cons_zero, List.set_cons_succ, List.getElem_toArray, List.getElem_cons_succ, List.getElem_cons_zero])
    refine wpAnyH_done (by kernel_rfl) ?_ _
    clear hne
    go_wp2
    go_ret
    exact ⟨rfl, HFIN.out⟩
  · skip
    go_simp
    (go_at_call 133; refine (HCP.out _ HP3.out).mono ?_; rintro e V1 ⟨A1, k1, rfl, ho1, hb1⟩)
    have r0 : V1.cell? ⟨w.heap.size, 0, none⟩ = some (.int .i64 ml) := (hb1.cell (p := ⟨w.heap.size, 0, none⟩) lw3).trans r0
    have r1 : V1.cell? ⟨w.heap.size, 1, none⟩ = some (.int .i64 ct) := (hb1.cell (p := ⟨w.heap.size, 1, none⟩) lw3).trans r1
    have r2 : V1.cell? ⟨w.heap.size, 2, none⟩ = some (.int .i64 vo) := (hb1.cell (p := ⟨w.heap.size, 2, none⟩) lw3).trans r2
    have r3 : V1.cell? ⟨w.heap.size, 3, none⟩ = some (.slice A val.length cc) := (hb1.cell (p := ⟨w.heap.size, 3, none⟩) lw3).trans r3
    have r4 : V1.cell? ⟨w.heap.size, 4, none⟩ = some (.bool gn) := (hb1.cell (p := ⟨w.heap.size, 4, none⟩) lw3).trans r4
    have r5 : V1.cell? ⟨w.heap.size, 5, none⟩ = some (.int .i64 tt) := (hb1.cell (p := ⟨w.heap.size, 5, none⟩) lw3).trans r5
    have HO1 := Lib.hid (own_base (base' := w.heap.size) HB3.out.size ho1)
    have H3 := Lib.hid (H3.out.below hb1)
    have HB3 := Lib.hid (HB3.out.trans (hb1.mono HB3.out.size))
    have p0 : V1.cell? ⟨b, 0, none⟩ = some (.slice A0 L.length c0) := H3.out.c0
    have lw3 : w.heap.size < V1.heap.size := Nat.lt_of_lt_of_le lw3 hb1.size
    clear hb1 ho1
    (try dsimp only)
    refine hK.out _ _ ?_ (fun hHeld => ?_)
    · exact ⟨r0, r1, r2, r3, r4, r5⟩
    clear hK K
    (try simp only [Act.put, List.setIfInBounds_toArray, List.set_cons_zero, List.set_cons_succ, List.getElem_toArray, List.getElem_cons_succ, List.getElem_cons_zero])
    refine wpAnyH_ready (rs := [4, 8]) (by kernel_rfl) (by simp) ?_
    refine AllReadyH.cons rfl (fun K hK => ?_) (AllReadyH.cons rfl (fun K hK => ?_) (AllReadyH.nil))
    · skip
      go_simp
      (try dsimp only)
      refine hK.out _ _ ?_ (fun hHeld => ?_)
      · exact ⟨r0, r1, r2, r3, r4, r5⟩
      clear hK K
      (try simp only [Act.put, List.setIfInBounds_toArray, List.set_cons_zero, List.set_cons_succ, List.getElem_toArray, List.getElem_cons_succ, List.getElem_cons_zero])
      refine wpAnyH_ready (rs := [8]) (by kernel_rfl) (by simp) ?_
      refine AllReadyH.cons rfl (fun K hK => ?_) (AllReadyH.nil)
      go_simp
      have HONE : Hid (One (V1.alloc (.cells #[.int .i64 ml, .int .i64 ct, .int .i64 vo, .slice A1 val.length k1, .bool gn, .int .i64 tt] 44)) V1.heap.size ⟨⟨ml, ct, vo, val, gn, tt⟩, A1, k1⟩) := Lib.hid (heap_alloc_new V1 _)
      have hba : Below V1.heap.size V1 (V1.alloc (.cells #[.int .i64 ml, .int .i64 ct, .int .i64 vo, .slice A1 val.length k1, .bool gn, .int .i64 tt] 44)) := (Below.refl _ _).alloc (Nat.le_refl _) _
      have r0 : (V1.alloc (.cells #[.int .i64 ml, .int .i64 ct, .int .i64 vo, .slice A1 val.length k1, .bool gn, .int .i64 tt] 44)).cell? ⟨w.heap.size, 0, none⟩ = some (.int .i64 ml) := (hba.cell (p := ⟨w.heap.size, 0, none⟩) lw3).trans r0
      have r1 : (V1.alloc (.cells #[.int .i64 ml, .int .i64 ct, .int .i64 vo, .slice A1 val.length k1, .bool gn, .int .i64 tt] 44)).cell? ⟨w.heap.size, 1, none⟩ = some (.int .i64 ct) := (hba.cell (p := ⟨w.heap.size, 1, none⟩) lw3).trans r1
      have r2 : (V1.alloc (.cells #[.int .i64 ml, .int .i64 ct, .int .i64 vo, .slice A1 val.length k1, .bool gn, .int .i64 tt] 44)).cell? ⟨w.heap.size, 2, none⟩ = some (.int .i64 vo) := (hba.cell (p := ⟨w.heap.size, 2, none⟩) lw3).trans r2
      have r3 : (V1.alloc (.cells #[.int .i64 ml, .int .i64 ct, .int .i64 vo, .slice A1 val.length k1, .bool gn, .int .i64 tt] 44)).cell? ⟨w.heap.size, 3, none⟩ = some (.slice A val.length cc) := (hba.cell (p := ⟨w.heap.size, 3, none⟩) lw3).trans r3
      have r4 : (V1.alloc (.cells #[.int .i64 ml, .int .i64 ct, .int .i64 vo, .slice A1 val.length k1, .bool gn, .int .i64 tt] 44)).cell? ⟨w.heap.size, 4, none⟩ = some (.bool gn) := (hba.cell (p := ⟨w.heap.size, 4, none⟩) lw3).trans r4
      have r5 : (V1.alloc (.cells #[.int .i64 ml, .int .i64 ct, .int .i64 vo, .slice A1 val.length k1, .bool gn, .int .i64 tt] 44)).cell? ⟨w.heap.size, 5, none⟩ = some (.int .i64 tt) := (hba.cell (p := ⟨w.heap.size, 5, none⟩) lw3).trans r5
      have HNB : Hid ((Value.slice A0 L.length c0).ownBlock ≠ some V1.heap.size) := Lib.hid (fun e => by have := (World.ownsRow.lt H3.out.row _ e).2; omega)
      have HO1 := Lib.hid (row_below HO1.out hba)
      have H3 := Lib.hid (H3.out.below hba)
      have HB3 := Lib.hid (HB3.out.trans (hba.mono HB3.out.size))
      have p0 : (V1.alloc (.cells #[.int .i64 ml, .int .i64 ct, .int .i64 vo, .slice A1 val.length k1, .bool gn, .int .i64 tt] 44)).cell? ⟨b, 0, none⟩ = some (.slice A0 L.length c0) := H3.out.c0
      have lw3 : w.heap.size < (V1.alloc (.cells #[.int .i64 ml, .int .i64 ct, .int .i64 vo, .slice A1 val.length k1, .bool gn, .int .i64 tt] 44)).heap.size := Nat.lt_of_lt_of_le lw3 hba.size
      clear hba
      generalize V1.heap.size = vb at *
      generalize V1.alloc (.cells #[.int .i64 ml, .int .i64 ct, .int .i64 vo, .slice A1 val.length k1, .bool gn, .int .i64 tt] 44) = V2 at *
      (try dsimp only)
      refine hK.out _ _ ?_ (fun hHeld => ?_)
      · exact ⟨r0, r1, r2, r3, r4, r5⟩
      clear hK K
      (try simp only [Act.put, List.setIfInBounds_toArray, List.set_cons_zero, List.set_cons_succ, List.getElem_toArray, List.getElem_cons_succ, List.getElem_cons_zero])
      refine wpAnyH_ready (rs := [9]) (by kernel_rfl) (by simp) ?_
      refine AllReadyH.cons rfl (fun K hK => ?_) (AllReadyH.nil)
      go_simp
      (go_at_call 164; refine (HIN.out _ vb 1 ⟨⟨ml, ct, vo, val, gn, tt⟩, A1, k1⟩ H3.out.row HONE.out HNB.out).mono ?_; rintro e V3 ⟨g, cap, rfl, hbut, hat, hrow⟩)
      have nb : ¬ (Value.slice A0 L.length c0).ownBlock = some w.heap.size := fun e => by have := (World.ownsRow.lt HH.out.row _ e).2; omega
      have r0 : V3.cell? ⟨w.heap.size, 0, none⟩ = some (.int .i64 ml) := (hbut.cell _ _ lw3 nb).trans r0
      have r1 : V3.cell? ⟨w.heap.size, 1, none⟩ = some (.int .i64 ct) := (hbut.cell _ _ lw3 nb).trans r1
      have r2 : V3.cell? ⟨w.heap.size, 2, none⟩ = some (.int .i64 vo) := (hbut.cell _ _ lw3 nb).trans r2
      have r3 : V3.cell? ⟨w.heap.size, 3, none⟩ = some (.slice A val.length cc) := (hbut.cell _ _ lw3 nb).trans r3
      have r4 : V3.cell? ⟨w.heap.size, 4, none⟩ = some (.bool gn) := (hbut.cell _ _ lw3 nb).trans r4
      have r5 : V3.cell? ⟨w.heap.size, 5, none⟩ = some (.int .i64 tt) := (hbut.cell _ _ lw3 nb).trans r5
      have p3 : V3.cell? ⟨b, 0, none⟩ = some (.slice A0 L.length c0) := (hbut.cell _ _ H3.out.lt H3.out.ne).trans p0
      have f3 : V3.frozen? ⟨b, 0, none⟩ = false := (hbut.frozen _ _ H3.out.lt H3.out.ne).trans H3.out.f0
      have bw : b ≠ w.heap.size := by have := HH.out.lt; omega
      have HFIN := Lib.hid (put_fin (m := ⟨⟨ml, ct, vo, val, gn, tt⟩, A, cc⟩) HH.out H3.out HB3.out HO1.out (Nat.le_refl _) hy hkl hbut hat hrow)
      clear hbut hat hrow nb
      (try dsimp only)
      refine hK.out _ _ ?_ (fun hHeld => ?_)
      · exact ⟨r0, r1, r2, r3, r4, r5⟩
      clear hK K
      (try simp only [Act.put, List.setIfInBounds_toArray, List.set_cons_zero, List.set_cons_succ, List.getElem_toArray, List.getElem_cons_succ, List.getElem_cons_zero])
      refine wpAnyH_take (i := 10) (v := ?_) rfl (by kernel_rfl) (by kernel_rfl) (by kernel_rfl) (fun _ _ _ h => h) (Or.inl ⟨by rfl, ?_⟩) (by assumption) ?_
      rotate_left
      · intro w' hSw; (try dsimp only at hSw); go_simp; (try with_reducible rfl)
      (try simp only [Act.put, List.setIfInBounds_toArray, List.set_cons_zero, List.set_cons_succ, List.getElem_toArray, List.getElem_cons_succ, List.getElem_cons_zero])
      refine wpAnyH_take (i := 11) (v := ?_) rfl (by kernel_rfl) (by kernel_rfl) (by kernel_rfl) (fun _ _ _ h => h) (Or.inl ⟨by rfl, ?_⟩) (by assumption) ?_
      rotate_left
      · intro w' hSw; (try dsimp only at hSw); go_simp; (try with_reducible rfl)
      (try simp only [Act.put, List.setIfInBounds_toArray, List.set_cons_zero, List.set_cons_succ, List.getElem_toArray, List.getElem_cons_succ, List.getElem_cons_zero])
      refine wpAnyH_ready (rs := [12]) (by kernel_rfl) (by simp) ?_
      refine AllReadyH.cons rfl (fun K hK => ?_) (AllReadyH.nil)
      go_simp
      have hne : ∀ o, (V3.setCell ⟨b, 0, none⟩ (.slice (some ⟨g, 0, none⟩) (L.length + 1) cap)).cell? ⟨w.heap.size, o, none⟩ = V3.cell? ⟨w.heap.size, o, none⟩ := fun o => World.cell?_setCell_other _ _ _ _ (fun e => bw (congrArg Addr.block e))
      (try dsimp only)
      refine hK.out _ _ ?_ (fun hHeld => ?_)
      · exact ⟨(hne 0).trans r0, (hne 1).trans r1, (hne 2).trans r2, (hne 3).trans r3, (hne 4).trans r4, (hne 5).trans r5⟩
      clear hK K
      (try simp only [Act.put, List.setIfInBounds_toArray, List.set_cons_zero, List.set_cons_succ, List.getElem_toArray, List.getElem_cons_succ, List.getElem_cons_zero])
      refine wpAnyH_done (by kernel_rfl) ?_ _
      clear hne
      go_wp2
      go_ret
      exact ⟨rfl, HFIN.out⟩
    · skip
      go_simp
      have HONE : Hid (One (V1.alloc (.cells #[.int .i64 ml, .int .i64 ct, .int .i64 vo, .slice A1 val.length k1, .bool gn, .int .i64 tt] 44)) V1.heap.size ⟨⟨ml, ct, vo, val, gn, tt⟩, A1, k1⟩) := Lib.hid (heap_alloc_new V1 _)
      have hba : Below V1.heap.size V1 (V1.alloc (.cells #[.int .i64 ml, .int .i64 ct, .int .i64 vo, .slice A1 val.length k1, .bool gn, .int .i64 tt] 44)) := (Below.refl _ _).alloc (Nat.le_refl _) _
      have r0 : (V1.alloc (.cells #[.int .i64 ml, .int .i64 ct, .int .i64 vo, .slice A1 val.length k1, .bool gn, .int .i64 tt] 44)).cell? ⟨w.heap.size, 0, none⟩ = some (.int .i64 ml) := (hba.cell (p := ⟨w.heap.size, 0, none⟩) lw3).trans r0
      have r1 : (V1.alloc (.cells #[.int .i64 ml, .int .i64 ct, .int .i64 vo, .slice A1 val.length k1, .bool gn, .int .i64 tt] 44)).cell? ⟨w.heap.size, 1, none⟩ = some (.int .i64 ct) := (hba.cell (p := ⟨w.heap.size, 1, none⟩) lw3).trans r1
      have r2 : (V1.alloc (.cells #[.int .i64 ml, .int .i64 ct, .int .i64 vo, .slice A1 val.length k1, .bool gn, .int .i64 tt] 44)).cell? ⟨w.heap.size, 2, none⟩ = some (.int .i64 vo) := (hba.cell (p := ⟨w.heap.size, 2, none⟩) lw3).trans r2
      have r3 : (V1.alloc (.cells #[.int .i64 ml, .int .i64 ct, .int .i64 vo, .slice A1 val.length k1, .bool gn, .int .i64 tt] 44)).cell? ⟨w.heap.size, 3, none⟩ = some (.slice A val.length cc) := (hba.cell (p := ⟨w.heap.size, 3, none⟩) lw3).trans r3
      have r4 : (V1.alloc (.cells #[.int .i64 ml, .int .i64 ct, .int .i64 vo, .slice A1 val.length k1, .bool gn, .int .i64 tt] 44)).cell? ⟨w.heap.size, 4, none⟩ = some (.bool gn) := (hba.cell (p := ⟨w.heap.size, 4, none⟩) lw3).trans r4
      have r5 : (V1.alloc (.cells #[.int .i64 ml, .int .i64 ct, .int .i64 vo, .slice A1 val.length k1, .bool gn, .int .i64 tt] 44)).cell? ⟨w.heap.size, 5, none⟩ = some (.int .i64 tt) := (hba.cell (p := ⟨w.heap.size, 5, none⟩) lw3).trans r5
      have HNB : Hid ((Value.slice A0 L.length c0).ownBlock ≠ some V1.heap.size) := Lib.hid (fun e => by have := (World.ownsRow.lt H3.out.row _ e).2; omega)
      have HO1 := Lib.hid (row_below HO1.out hba)
      have H3 := Lib.hid (H3.out.below hba)
      have HB3 := Lib.hid (HB3.out.trans (hba.mono HB3.out.size))
      have p0 : (V1.alloc (.cells #[.int .i64 ml, .int .i64 ct, .int .i64 vo, .slice A1 val.length k1, .bool gn, .int .i64 tt] 44)).cell? ⟨b, 0, none⟩ = some (.slice A0 L.length c0) := H3.out.c0
      have lw3 : w.heap.size < (V1.alloc (.cells #[.int .i64 ml, .int .i64 ct, .int .i64 vo, .slice A1 val.length k1, .bool gn, .int .i64 tt] 44)).heap.size := Nat.lt_of_lt_of_le lw3 hba.size
      clear hba
      generalize V1.heap.size = vb at *
      generalize V1.alloc (.cells #[.int .i64 ml, .int .i64 ct, .int .i64 vo, .slice A1 val.length k1, .bool gn, .int .i64 tt] 44) = V2 at *
      (try dsimp only)
      refine hK.out _ _ ?_ (fun hHeld => ?_)
      · exact ⟨r0, r1, r2, r3, r4, r5⟩
      clear hK K
      (try simp only [Act.put, List.setIfInBounds_toArray, List.set_cons_zero, List.set_cons_succ, List.getElem_toArray, List.getElem_cons_succ, List.getElem_cons_zero])
      refine wpAnyH_ready (rs := [4]) (by kernel_rfl) (by simp) ?_
      refine AllReadyH.cons rfl (fun K hK => ?_) (AllReadyH.nil)
      go_simp
      (try dsimp only)
      refine hK.out _ _ ?_ (fun hHeld => ?_)
      · exact ⟨r0, r1, r2, r3, r4, r5⟩
      clear hK K
      (try simp only [Act.put, List.setIfInBounds_toArray, List.set_cons_zero, List.set_cons_succ, List.getElem_toArray, List.getElem_cons_succ, List.getElem_cons_zero])
      refine wpAnyH_ready (rs := [9]) (by kernel_rfl) (by simp) ?_
      refine AllReadyH.cons rfl (fun K hK => ?_) (AllReadyH.nil)
      go_simp
      (go_at_call 164; refine (HIN.out _ vb 1 ⟨⟨ml, ct, vo, val, gn, tt⟩, A1, k1⟩ H3.out.row HONE.out HNB.out).mono ?_; rintro e V3 ⟨g, cap, rfl, hbut, hat, hrow⟩)
      have nb : ¬ (Value.slice A0 L.length c0).ownBlock = some w.heap.size := fun e => by have := (World.ownsRow.lt HH.out.row _ e).2; omega
      have r0 : V3.cell? ⟨w.heap.size, 0, none⟩ = some (.int .i64 ml) := (hbut.cell _ _ lw3 nb).trans r0
      have r1 : V3.cell? ⟨w.heap.size, 1, none⟩ = some (.int .i64 ct) := (hbut.cell _ _ lw3 nb).trans r1
      have r2 : V3.cell? ⟨w.heap.size, 2, none⟩ = some (.int .i64 vo) := (hbut.cell _ _ lw3 nb).trans r2
      have r3 : V3.cell? ⟨w.heap.size, 3, none⟩ = some (.slice A val.length cc) := (hbut.cell _ _ lw3 nb).trans r3
      have r4 : V3.cell? ⟨w.heap.size, 4, none⟩ = some (.bool gn) := (hbut.cell _ _ lw3 nb).trans r4
      have r5 : V3.cell? ⟨w.heap.size, 5, none⟩ = some (.int .i64 tt) := (hbut.cell _ _ lw3 nb).trans r5
      have p3 : V3.cell? ⟨b, 0, none⟩ = some (.slice A0 L.length c0) := (hbut.cell _ _ H3.out.lt H3.out.ne).trans p0
      have f3 : V3.frozen? ⟨b, 0, none⟩ = false := (hbut.frozen _ _ H3.out.lt H3.out.ne).trans H3.out.f0
      have bw : b ≠ w.heap.size := by have := HH.out.lt; omega
      have HFIN := Lib.hid (put_fin (m := ⟨⟨ml, ct, vo, val, gn, tt⟩, A, cc⟩) HH.out H3.out HB3.out HO1.out (Nat.le_refl _) hy hkl hbut hat hrow)
      clear hbut hat hrow nb
      (try dsimp only)
      refine hK.out _ _ ?_ (fun hHeld => ?_)
      · exact ⟨r0, r1, r2, r3, r4, r5⟩
      clear hK K
      (try simp only [Act.put, List.setIfInBounds_toArray, List.set_cons_zero, List.set_cons_succ, List.getElem_toArray, List.getElem_cons_succ, List.getElem_cons_zero])
      refine wpAnyH_take (i := 10) (v := ?_) rfl (by kernel_rfl) (by kernel_rfl) (by kernel_rfl) (fun _ _ _ h => h) (Or.inl ⟨by rfl, ?_⟩) (by assumption) ?_
      rotate_left
      · intro w' hSw; (try dsimp only at hSw); go_simp; (try with_reducible rfl)
      (try simp only [Act.put, List.setIfInBounds_toArray, List.set_cons_zero, List.set_cons_succ, List.getElem_toArray, List.getElem_cons_succ, List.getElem_cons_zero])
      refine wpAnyH_take (i := 11) (v := ?_) rfl (by kernel_rfl) (by kernel_rfl) (by kernel_rfl) (fun _ _ _ h => h) (Or.inl ⟨by rfl, ?_⟩) (by assumption) ?_
      rotate_left
      · intro w' hSw; (try dsimp only at hSw); go_simp; (try with_reducible rfl)
      (try simp only [Act.put, List.setIfInBounds_toArray, List.set_cons_zero, List.set_cons_succ, List.getElem_toArray, List.getElem_cons_succ, List.getElem_cons_zero])
      refine wpAnyH_ready (rs := [12]) (by kernel_rfl) (by simp) ?_
      refine AllReadyH.cons rfl (fun K hK => ?_) (AllReadyH.nil)
      go_simp
      have hne : ∀ o, (V3.setCell ⟨b, 0, none⟩ (.slice (some ⟨g, 0, none⟩) (L.length + 1) cap)).cell? ⟨w.heap.size, o, none⟩ = V3.cell? ⟨w.heap.size, o, none⟩ := fun o => World.cell?_setCell_other _ _ _ _ (fun e => bw (congrArg Addr.block e))
      (try dsimp only)
      refine hK.out _ _ ?_ (fun hHeld => ?_)
      · exact ⟨(hne 0).trans r0, (hne 1).trans r1, (hne 2).trans r2, (hne 3).trans r3, (hne 4).trans r4, (hne 5).trans r5⟩
      clear hK K
      (try simp only [Act.put, List.setIfInBounds_toArray, List.set_cons_zero, List.set_cons_succ, List.getElem_toArray, List.getElem_cons_succ, List.getElem_cons_zero])
      refine wpAnyH_done (by kernel_rfl) ?_ _
      clear hne
      go_wp2
      go_ret
      exact ⟨rfl, HFIN.out⟩
end Go.Proofs.YtpflbhcgkndpcaaGreatDoor

