/- leap.Of, the reference's Of, and tables, of any leaps. -/
import Derived.Test.YtonleiffbfdikaaDoorKnownP
import Derived.Test.YtonleiffbfdikaaDoorLeapNo
import Derived.Test.YtonleiffbfdikaaDoorRef3Is
import Derived.Laws.AppendOwnNone
import Derived.Lib.SliceRun
set_option linter.unusedSimpArgs false
set_option linter.unusedVariables false
namespace Go.Proofs.YtonleiffbfdikaaDoor
open Go.RowKit

theorem FlatAt.bd {w : World} {A : Option Addr} {m n : Nat} {z : Nat → Int} (h : FlatAt w A m n z) : ∀ j, j < n * m → -9223372036854775808 ≤ z j ∧ z j ≤ 9223372036854775807 := by
  intro j hj
  by_cases h0 : n = 0
  · subst h0; omega
  · obtain ⟨B, O, _, _, hc⟩ := h (by omega)
    exact (hc j hj).2
theorem FlatAt.empty (w : World) (A : Option Addr) (m : Nat) (z : Nat → Int) : FlatAt w A m 0 z := fun h => absurd h (by omega)
theorem own_flat2 {w : World} {base : Nat} {e : TypeId} {v : Value} {n : Nat} {z : Nat → Int} (h : w.ownsRow base e 2 v n (cellsOf z (n * 2))) (hz : ∀ j, j < n * 2 → -9223372036854775808 ≤ z j ∧ z j ≤ 9223372036854775807) :
    ∃ (A : Option Addr) (c : Nat), v = .slice A n c ∧ FlatAt w A 2 n z ∧ ∀ ad, A = some ad → base ≤ ad.block := by
  have hc0 := fun g hg => h.cells (g := g) hg
  have hl0 := fun g hg => h.lt g hg
  rcases h.2 with ⟨rfl, rfl⟩ | ⟨g, cap, cur, rfl, hb, hh, _⟩
  · exact ⟨none, 0, rfl, FlatAt.empty _ _ _ _, fun _ h => by cases h⟩
  · refine ⟨_, _, rfl, fun hn => ⟨g, 0, rfl, (hl0 g rfl).2, fun j hj => ⟨?_, hz j hj⟩⟩, fun ad h => by injection h with h; subst h; exact hb⟩
    have := hc0 g rfl j _ (cellsOf_at z (n * 2) j hj)
    rwa [at_add] at this
theorem FlatAt.only {g : Nat} {w w' : World} {A : Option Addr} {m n : Nat} {z : Nat → Int} (h : FlatAt w A m n z) (k : Only g w w') (hne : ∀ ad, A = some ad → ad.block ≠ g) : FlatAt w' A m n z := by
  intro h0
  obtain ⟨B, O, rfl, hB, hc⟩ := h h0
  exact ⟨B, O, rfl, Nat.lt_of_lt_of_le hB k.size, fun j hj => ⟨(k.cell _ _ hB (hne _ rfl)).trans (hc j hj).1, (hc j hj).2⟩⟩

/-- A copy: a slice of its own with the same cells. -/
def Cloned (w w' : World) (n : Nat) (z : Nat → Int) (e : Ending) : Prop := ∃ A' c', e = .returned (.slice A' n c') ∧ FlatAt w' A' 2 n z ∧ ∀ ad, A' = some ad → w.heap.size ≤ ad.block
set_option maxRecDepth 100000 in
set_option maxHeartbeats 1000000 in
theorem clone_any (A : Option Addr) (n c : Nat) (z : Nat → Int) (w : World) (hz : FlatAt w A 2 n z) (hn : n ≤ 300) (hnil : A = none → n = 0 ∧ c = 0) :
    Calls Tryd.prog 25 #[.slice A n c] w fun e w' => Cloned w w' n z e ∧ Below w.heap.size w w' := by
  cases A with
  | none =>
    obtain ⟨rfl, rfl⟩ := hnil rfl
    have q22 : ∀ (w : World) (a : Option Addr) (n c n' c' : Nat), (binOp .eql 22 (.slice a n c) (.slice none n' c')).run Tryd.prog w = .ok (.bool a.isNone) w := fun w a n c n' c' => Lib.run_eql_slice_nil w _ _ a n c n' c' Tryd.underlying22
    go_enter Tryd.func25, Tryd.ntmps25
    go_wp2
    go_ret
    exact ⟨⟨none, 0, rfl, FlatAt.empty _ _ _ _, fun _ h => by cases h⟩, Below.refl _ _⟩
  | some ad =>
    obtain ⟨i0, hi, hz0, hz1, hz2⟩ := info_parts leap_info
    have HW0 : Below w.heap.size w (w.alloc (.cells #[] 33)) := by (repeat' (first | (with_reducible exact Below.refl _ _) | (with_reducible assumption) | (with_reducible refine Below.trans ?_ (Below.mono (by with_reducible assumption) ?_)) | (with_reducible refine Below.alloc ?_ ?_ _) | (with_reducible refine Below.setCell ?_ ?_ _) | (with_reducible refine below_drewN ?_ _) | (with_reducible refine Below.drew ?_) | go_size))
    have hsrc := (hz.below HW0).cells
    have HZ := Lib.hid hz.bd
    clear hz hnil
    have q22 : ∀ (w : World) (a : Option Addr) (n c n' c' : Nat), (binOp .eql 22 (.slice a n c) (.slice none n' c')).run Tryd.prog w = .ok (.bool a.isNone) w := fun w a n c n' c' => Lib.run_eql_slice_nil w _ _ a n c n' c' Tryd.underlying22
    go_enter Tryd.func25, Tryd.ntmps25
    go_wp2_with (at_builtin; refine wpList_append_own _ rfl (.tmp 5) (.tmp 6) _ rfl w.heap.size 33 i0 _ 2 16 Tryd.underlying22 hi hz0 hz1 hz2 rfl (by decide) (.slice (some ⟨w.heap.size, 0, none⟩) 0 0) 0 [] rfl (World.ownsRow_made w #[] 0 (Nat.le_refl _) (Nat.zero_le _) rfl) ad n c (cellsOf z (n * 2)) rfl (cellsOf_len _ _) hsrc (cellsOf_one _ _) (by unfold maxLen; omega) (by omega) (by simp) ?_; intro v1 w1 hown1 hg1 hat1)
    have hown : w1.ownsRow w.heap.size 33 2 v1 n (cellsOf z (n * 2)) := by simpa using hown1
    have HB1 : Below w.heap.size w w1 := HW0.grown hg1 (by simp) (fun k hk => by simp [Value.ownBlock] at hk; omega)
    obtain ⟨A1, c1, rfl, hp, hf⟩ := own_flat2 hown HZ.out
    clear hown hown1 hg1 hat1 hsrc HW0 HZ
    go_ret
    exact ⟨⟨A1, c1, rfl, hp, hf⟩, HB1⟩
set_option maxHeartbeats 1000000 in
theorem leap_of_yes (A : Option Addr) (n c : Nat) (x : Int) (z : Nat → Int) (w : World) (hz : FlatAt w A 2 n z) (hn : n ≤ 300) (hnil : A = none → n = 0 ∧ c = 0) (ht : IsTab z n x) :
    Calls Tryd.prog 11 #[.int .i64 x, .slice A n c] w fun e w' => (∃ A' c', e = .returned (.tuple #[.agg #[.slice A' n c', .int .i64 x], .int .i64 0]) ∧ FlatAt w' A' 2 n z ∧ ∀ ad, A' = some ad → w.heap.size ≤ ad.block) ∧ Below w.heap.size w w' := by
  have HB0 : Below w.heap.size w (w.alloc (.cells #[.slice none 0 0, .int .i64 0] 24)) := by (repeat' (first | (with_reducible exact Below.refl _ _) | (with_reducible assumption) | (with_reducible refine Below.trans ?_ (Below.mono (by with_reducible assumption) ?_)) | (with_reducible refine Below.alloc ?_ ?_ _) | (with_reducible refine Below.setCell ?_ ?_ _) | (with_reducible refine below_drewN ?_ _) | (with_reducible refine Below.drew ?_) | go_size))
  have T0 : Tb (w.alloc (.cells #[.slice none 0 0, .int .i64 0] 24)) w.heap.size (.slice none 0 0) 0 := ⟨by simp [go_sem], by simp [go_sem], by simp [go_sem], by simp [go_sem], by simp⟩
  have HC := Lib.hid (clone_any A n c z _ (hz.below HB0) hn hnil)
  have HT := Lib.hid ht
  clear hz hnil ht
  go_enter Tryd.func11, Tryd.ntmps11
  go_wp2_with fail
  refine HC.out.mono ?_; rintro e w1 ⟨⟨A1, c1, rfl, hp1, hf1⟩, hb1⟩
  have HB1 := HB0.trans (hb1.mono HB0.size)
  have T1 := T0.below hb1
  have HW : Below w1.heap.size w1 (w1.alloc (.cells #[.slice A1 n c1, .int .i64 x] 24)) := by (repeat' (first | (with_reducible exact Below.refl _ _) | (with_reducible assumption) | (with_reducible refine Below.trans ?_ (Below.mono (by with_reducible assumption) ?_)) | (with_reducible refine Below.alloc ?_ ?_ _) | (with_reducible refine Below.setCell ?_ ?_ _) | (with_reducible refine below_drewN ?_ _) | (with_reducible refine Below.drew ?_) | go_size))
  have X1 : Tb (w1.alloc (.cells #[.slice A1 n c1, .int .i64 x] 24)) w1.heap.size (.slice A1 n c1) x := ⟨by simp [go_sem], by simp [go_sem], by simp [go_sem], by simp [go_sem], by simp⟩
  have T2 := T1.below HW
  have hp2 := hp1.below HW
  have HB2 := HB1.trans (HW.mono HB1.size)
  have HI := Lib.hid (leap_is_yes A1 n c1 x z _ hp2 HT.out)
  have h1lt := T1.lt
  clear hb1 T0 T1 hp1 HW HB1 HC
  go_wp2_with fail
  refine HI.out.mono ?_; rintro e w3 ⟨rfl, hb3⟩
  have HB3 := HB2.trans (hb3.mono HB2.size)
  have T3 := T2.below hb3
  have X3 := X1.below hb3
  have FL := Lib.hid (hp2.below hb3)
  have R := (T3.set0 (.slice A1 n c1)).set1 x
  have R0 := R.c0
  have R1 := R.c1
  obtain ⟨t0, t1, tf0, tf1, tl⟩ := T3
  obtain ⟨x0, x1, xf0, xf1, xl⟩ := X3
  have ZO : Hid (Only w.heap.size w3 ((w3.setCell ⟨w.heap.size, 0, none⟩ (.slice A1 n c1)).setCell ⟨w.heap.size, 1, none⟩ (.int .i64 x))) := ((Only.refl _ w3).setB _).setB _
  have ZB := Lib.hid ((HB3.setCell (p := ⟨w.heap.size, 0, none⟩) (Nat.le_refl _) (.slice A1 n c1)).setCell (p := ⟨w.heap.size, 1, none⟩) (Nat.le_refl _) (.int .i64 x))
  have hf1' : Hid (∀ ad, A1 = some ad → w.heap.size + 1 ≤ ad.block) := fun ad h => by have := hf1 ad h; simpa using this
  clear hb3 T2 X1 hp2 HB2 HB3 R HI hf1
  go_wp2_with fail
  refine bodyPost_ret (v := .tuple #[.agg #[.slice A1 n c1, .int .i64 x], .int .i64 0]) (by simp [results, Tryd.results11, go_sem, R0, R1]) rfl ⟨⟨A1, c1, rfl, FL.out.only ZO.out (fun ad h => by have := hf1'.out ad h; omega), fun ad h => by have := hf1'.out ad h; omega⟩, ZB.out⟩
set_option maxHeartbeats 1000000 in
theorem leap_of_no (A : Option Addr) (n c : Nat) (x : Int) (z : Nat → Int) (w : World) (hz : FlatAt w A 2 n z) (hn : n ≤ 300) (hnil : A = none → n = 0 ∧ c = 0) (ht : ¬ IsTab z n x) :
    Calls Tryd.prog 11 #[.int .i64 x, .slice A n c] w fun e w' => e = .returned (.tuple #[.agg #[.slice none 0 0, .int .i64 0], .int .i64 12]) ∧ Below w.heap.size w w' := by
  have HB0 : Below w.heap.size w (w.alloc (.cells #[.slice none 0 0, .int .i64 0] 24)) := by (repeat' (first | (with_reducible exact Below.refl _ _) | (with_reducible assumption) | (with_reducible refine Below.trans ?_ (Below.mono (by with_reducible assumption) ?_)) | (with_reducible refine Below.alloc ?_ ?_ _) | (with_reducible refine Below.setCell ?_ ?_ _) | (with_reducible refine below_drewN ?_ _) | (with_reducible refine Below.drew ?_) | go_size))
  have T0 : Tb (w.alloc (.cells #[.slice none 0 0, .int .i64 0] 24)) w.heap.size (.slice none 0 0) 0 := ⟨by simp [go_sem], by simp [go_sem], by simp [go_sem], by simp [go_sem], by simp⟩
  have HC := Lib.hid (clone_any A n c z _ (hz.below HB0) hn hnil)
  have HT := Lib.hid ht
  clear hz hnil ht
  go_enter Tryd.func11, Tryd.ntmps11
  go_wp2_with fail
  refine HC.out.mono ?_; rintro e w1 ⟨⟨A1, c1, rfl, hp1, hf1⟩, hb1⟩
  have HB1 := HB0.trans (hb1.mono HB0.size)
  have T1 := T0.below hb1
  have HW : Below w1.heap.size w1 (w1.alloc (.cells #[.slice A1 n c1, .int .i64 x] 24)) := by (repeat' (first | (with_reducible exact Below.refl _ _) | (with_reducible assumption) | (with_reducible refine Below.trans ?_ (Below.mono (by with_reducible assumption) ?_)) | (with_reducible refine Below.alloc ?_ ?_ _) | (with_reducible refine Below.setCell ?_ ?_ _) | (with_reducible refine below_drewN ?_ _) | (with_reducible refine Below.drew ?_) | go_size))
  have X1 : Tb (w1.alloc (.cells #[.slice A1 n c1, .int .i64 x] 24)) w1.heap.size (.slice A1 n c1) x := ⟨by simp [go_sem], by simp [go_sem], by simp [go_sem], by simp [go_sem], by simp⟩
  have T2 := T1.below HW
  have hp2 := hp1.below HW
  have HB2 := HB1.trans (HW.mono HB1.size)
  have HI := Lib.hid (leap_is_no A1 n c1 x z _ hp2 (by unfold maxLen; omega) HT.out)
  have h1lt := T1.lt
  clear hb1 T0 T1 hp1 HW HB1 HC hf1
  go_wp2_with fail
  refine HI.out.mono ?_; rintro e w3 ⟨rfl, hb3⟩
  have HB3 := HB2.trans (hb3.mono HB2.size)
  have T3 := T2.below hb3
  have R := (T3.set0 (.slice none 0 0)).set1 0
  have R0 := R.c0
  have R1 := R.c1
  obtain ⟨t0, t1, tf0, tf1, tl⟩ := T3
  have ZB := Lib.hid ((HB3.setCell (p := ⟨w.heap.size, 0, none⟩) (Nat.le_refl _) (.slice none 0 0)).setCell (p := ⟨w.heap.size, 1, none⟩) (Nat.le_refl _) (.int .i64 0))
  clear hb3 T2 X1 hp2 HB2 HB3 R HI
  go_wp2_with fail
  refine bodyPost_ret (v := .tuple #[.agg #[.slice none 0 0, .int .i64 0], .int .i64 12]) (by simp [results, Tryd.results11, go_sem, R0, R1]) rfl ⟨rfl, ZB.out⟩
set_option maxHeartbeats 1000000 in
theorem tables_same (A A' : Option Addr) (n c c' : Nat) (x : Int) (z : Nat → Int) (w : World) (hz : FlatAt w A 2 n z) (hz' : FlatAt w A' 2 n z) (hn : n ≤ 300) :
    Calls Tryd.prog 13 #[.agg #[.slice A n c, .int .i64 x], .agg #[.slice A' n c', .int .i64 x]] w fun e w' => e = .returned (.bool true) ∧ Below w.heap.size w w' := by
  by_cases h0 : n = 0
  · subst h0
    clear hz hz'
    go_enter Tryd.func13, Tryd.ntmps13
    go_wp2
    refine wp_loop_rounds 1 ?_
    rw [rounds_succ]
    go_wp2
    go_ret
    go_light
    exact ⟨rfl, by (repeat' (first | (with_reducible exact Below.refl _ _) | (with_reducible assumption) | (with_reducible refine Below.trans ?_ (Below.mono (by with_reducible assumption) ?_)) | (with_reducible refine Below.alloc ?_ ?_ _) | (with_reducible refine Below.setCell ?_ ?_ _) | (with_reducible refine below_drewN ?_ _) | (with_reducible refine Below.drew ?_) | go_size))⟩
  · have HBW : Below w.heap.size w ((w.alloc (.cells #[.slice A n c, .int .i64 x] 24)).alloc (.cells #[.slice A' n c', .int .i64 x] 24)) := by (repeat' (first | (with_reducible exact Below.refl _ _) | (with_reducible assumption) | (with_reducible refine Below.trans ?_ (Below.mono (by with_reducible assumption) ?_)) | (with_reducible refine Below.alloc ?_ ?_ _) | (with_reducible refine Below.setCell ?_ ?_ _) | (with_reducible refine below_drewN ?_ _) | (with_reducible refine Below.drew ?_) | go_size))
    obtain ⟨B, O, rfl, lB, hc⟩ := (hz.below HBW) (by omega)
    obtain ⟨B', O', rfl, lB', hc'⟩ := (hz'.below HBW) (by omega)
    have HC := Lib.hid hc
    have HC' := Lib.hid hc'
    have T0 : Tb ((w.alloc (.cells #[.slice (some ⟨B, O, none⟩) n c, .int .i64 x] 24)).alloc (.cells #[.slice (some ⟨B', O', none⟩) n c', .int .i64 x] 24)) w.heap.size (.slice (some ⟨B, O, none⟩) n c) x := ⟨by simp [go_sem], by simp [go_sem], by simp [go_sem], by simp [go_sem], by simp [World.size_alloc]; try omega⟩
    have T1 : Tb ((w.alloc (.cells #[.slice (some ⟨B, O, none⟩) n c, .int .i64 x] 24)).alloc (.cells #[.slice (some ⟨B', O', none⟩) n c', .int .i64 x] 24)) (w.heap.size + 1) (.slice (some ⟨B', O', none⟩) n c') x := ⟨by simp [go_sem], by simp [go_sem], by simp [go_sem], by simp [go_sem], by simp [World.size_alloc]; try omega⟩
    clear hz hz' hc hc'
    go_enter Tryd.func13, Tryd.ntmps13
    go_wp2
    go_loopw [5] (fun i wr => ∃ k : Nat, k ≤ n ∧ i = .int .i64 k ∧ Below w.heap.size w wr ∧ Tb wr w.heap.size (.slice (some ⟨B, O, none⟩) n c) x ∧ Tb wr (w.heap.size + 1) (.slice (some ⟨B', O', none⟩) n c') x ∧ B < wr.heap.size ∧ B' < wr.heap.size ∧ (∀ j, j < n * 2 → wr.cell? ⟨B, O + j, none⟩ = some (.int .i64 (z j))) ∧ ∀ j, j < n * 2 → wr.cell? ⟨B', O' + j, none⟩ = some (.int .i64 (z j))) (fun i _ => n - (intOf i).toNat)
    case atStart => exact ⟨0, Nat.zero_le _, rfl, HBW, T0, T1, lB, lB', fun j hj => (HC.out j hj).1, fun j hj => (HC'.out j hj).1⟩
    case round =>
      obtain ⟨k, hk, rfl, HB, X0, X1, m0, m1, K0, K1⟩ := hrel
      clear T0 T1 HC HC' HBW lB lB'
      have Y0 := X0
      have Y1 := X1
      obtain ⟨a0, a1, af0, af1, al⟩ := X0
      obtain ⟨b0, b1, bf0, bf1, bl⟩ := X1
      by_cases hlt : k < n
      · have g0 := K0 (k * 2) (by omega)
        have g1 : wr.cell? ⟨B, O + k * 2 + 1, none⟩ = some (.int .i64 (z (k * 2 + 1))) := K0 (k * 2 + 1) (by omega)
        have g0' := K1 (k * 2) (by omega)
        have g1' : wr.cell? ⟨B', O' + k * 2 + 1, none⟩ = some (.int .i64 (z (k * 2 + 1))) := K1 (k * 2 + 1) (by omega)
        have t1 : ((k : Int) < (n : Int)) := by omega
        have KK := Lib.hid K0
        have KK' := Lib.hid K1
        clear K0 K1 hlt
        go_wp2_with fail
        go_quiet (fail)
        go_wp2
        have HD : Below wr.heap.size wr (wr.drewN nq) := below_drewN (Below.refl _ _) _
        exact ⟨⟨k + 1, by omega, by simp, HB.trans (HD.mono HB.size), Y0.below HD, Y1.below HD, m0, m1, fun j hj => KK.out j hj, fun j hj => KK'.out j hj⟩, by simp [intOf]; omega⟩
      · have t1 : ¬ ((k : Int) < (n : Int)) := by omega
        clear K0 K1 hlt
        go_wp2
        go_ret
        go_light
        exact ⟨rfl, HB⟩
end Go.Proofs.YtonleiffbfdikaaDoor
