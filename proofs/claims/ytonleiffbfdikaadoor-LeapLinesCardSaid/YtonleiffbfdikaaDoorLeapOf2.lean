/- The reference's Of, of any leaps. -/
import Derived.Test.YtonleiffbfdikaaDoorLeapOf
set_option linter.unusedSimpArgs false
set_option linter.unusedVariables false
namespace Go.Proofs.YtonleiffbfdikaaDoor
open Go.RowKit

theorem Tb.below0 {w w' : World} {b B : Nat} {v : Value} {x : Int} (h : Tb w b v x) (k : Below B w w') (hb : b < B) : Tb w' b v x :=
  ⟨(k.cell (p := ⟨b, 0, none⟩) hb).trans h.c0, (k.cell (p := ⟨b, 1, none⟩) hb).trans h.c1, (k.frozen (p := ⟨b, 0, none⟩) hb).trans h.f0, (k.frozen (p := ⟨b, 1, none⟩) hb).trans h.f1, Nat.lt_of_lt_of_le h.lt k.size⟩
set_option maxRecDepth 100000 in
set_option maxHeartbeats 2000000 in
theorem ref3_of_yes_some (ad : Addr) (n c : Nat) (x : Int) (z : Nat → Int) (w : World) (hz : FlatAt w (some ad) 2 n z) (hn : n ≤ 300) (ht : IsTab z n x) :
    Calls Tryd.prog 12 #[.int .i64 x, .slice (some ad) n c] w fun e w' => (∃ A' c', e = .returned (.tuple #[.agg #[.slice A' n c', .int .i64 x], .int .i64 0]) ∧ FlatAt w' A' 2 n z ∧ ∀ ad, A' = some ad → w.heap.size ≤ ad.block) ∧ Below w.heap.size w w' := by
  obtain ⟨i0, hi, hz0, hz1, hz2⟩ := info_parts leap_info
  have HB0 : Below w.heap.size w ((w.alloc (.cells #[.slice none 0 0, .int .i64 0] 24)).alloc (.cells #[] 33)) := by (repeat' (first | (with_reducible exact Below.refl _ _) | (with_reducible assumption) | (with_reducible refine Below.trans ?_ (Below.mono (by with_reducible assumption) ?_)) | (with_reducible refine Below.alloc ?_ ?_ _) | (with_reducible refine Below.setCell ?_ ?_ _) | (with_reducible refine below_drewN ?_ _) | (with_reducible refine Below.drew ?_) | go_size))
  have T0 : Tb ((w.alloc (.cells #[.slice none 0 0, .int .i64 0] 24)).alloc (.cells #[] 33)) w.heap.size (.slice none 0 0) 0 := ⟨by simp [go_sem], by simp [go_sem], by simp [go_sem], by simp [go_sem], by simp [World.size_alloc]; try omega⟩
  have hm : ((w.alloc (.cells #[.slice none 0 0, .int .i64 0] 24)).alloc (.cells #[] 33)).ownsRow (w.heap.size + 1) 33 2 (.slice (some ⟨w.heap.size + 1, 0, none⟩) 0 0) 0 [] := by
    have := World.ownsRow_made (base := w.heap.size + 1) (e := 33) (size := 2) (w.alloc (.cells #[.slice none 0 0, .int .i64 0] 24)) #[] 0 (by simp) (Nat.zero_le _) rfl
    simpa using this
  have HT := Lib.hid ht
  have hsrc := (hz.below HB0).cells
  have HZ := Lib.hid hz.bd
  clear hz ht
  go_enter Tryd.func12, Tryd.ntmps12
  go_wp2_with (at_builtin; refine wpList_append_own _ rfl (.tmp 7) (.tmp 8) _ rfl (w.heap.size + 1) 33 i0 _ 2 16 Tryd.underlying22 hi hz0 hz1 hz2 rfl (by decide) (.slice (some ⟨w.heap.size + 1, 0, none⟩) 0 0) 0 [] rfl hm ad n c (cellsOf z (n * 2)) rfl (cellsOf_len _ _) hsrc (cellsOf_one _ _) (by unfold maxLen; omega) (by omega) (by simp) ?_; intro v1 w1 hown1 hg1 hat1; have hown : w1.ownsRow (w.heap.size + 1) 33 2 v1 n (cellsOf z (n * 2)) := (by simpa using hown1); have HB01 : Below (w.heap.size + 1) ((w.alloc (.cells #[.slice none 0 0, .int .i64 0] 24)).alloc (.cells #[] 33)) w1 := (Below.refl _ _).grown hg1 (by simp) (fun k hk => (by simp [Value.ownBlock] at hk; omega)); obtain ⟨A1, c1, rfl, hp1, hf1⟩ := own_flat2 hown HZ.out; clear hown hown1 hg1 hat1)
  have HB1 : Below w.heap.size w w1 := HB0.trans (HB01.mono (by omega))
  clear hsrc HB0 HZ hm
  have T1 : Tb w1 w.heap.size (.slice none 0 0) 0 := T0.below0 HB01 (by omega)
  have HW : Below w1.heap.size w1 (w1.alloc (.cells #[.slice A1 n c1, .int .i64 x] 24)) := by (repeat' (first | (with_reducible exact Below.refl _ _) | (with_reducible assumption) | (with_reducible refine Below.trans ?_ (Below.mono (by with_reducible assumption) ?_)) | (with_reducible refine Below.alloc ?_ ?_ _) | (with_reducible refine Below.setCell ?_ ?_ _) | (with_reducible refine below_drewN ?_ _) | (with_reducible refine Below.drew ?_) | go_size))
  have X1 : Tb (w1.alloc (.cells #[.slice A1 n c1, .int .i64 x] 24)) w1.heap.size (.slice A1 n c1) x := ⟨by simp [go_sem], by simp [go_sem], by simp [go_sem], by simp [go_sem], by simp⟩
  have T2 := T1.below HW
  have hp2 := hp1.below HW
  have HB2 := HB1.trans (HW.mono HB1.size)
  have HI := Lib.hid (ref3_is A1 n c1 x z _ true hp2 (by unfold maxLen; omega) (by simp [HT.out]))
  have h1lt := T1.lt
  clear T0 T1 hp1 HW HB1 HB01
  go_wp2_with fail
  refine HI.out.mono ?_; rintro e w3 ⟨rfl, hb3⟩
  have HB3 := HB2.trans (hb3.mono HB2.size)
  have T3 := T2.below hb3
  have X3 := X1.below hb3
  have FL := Lib.hid (hp2.below hb3)
  have R := (T3.set0 (.slice A1 n c1)).set1 x
  have R0 := R.c0
  have R1 := R.c1
  obtain ⟨t0, t1, tf0, tf1, tl⟩ := T3
  obtain ⟨x0, x1, xf0, xf1, xl⟩ := X3
  have ZO : Hid (Only w.heap.size w3 ((w3.setCell ⟨w.heap.size, 0, none⟩ (.slice A1 n c1)).setCell ⟨w.heap.size, 1, none⟩ (.int .i64 x))) := ((Only.refl _ w3).setB _).setB _
  have ZB := Lib.hid ((HB3.setCell (p := ⟨w.heap.size, 0, none⟩) (Nat.le_refl _) (.slice A1 n c1)).setCell (p := ⟨w.heap.size, 1, none⟩) (Nat.le_refl _) (.int .i64 x))
  have hf1' : Hid (∀ ad, A1 = some ad → w.heap.size + 1 ≤ ad.block) := hf1
  clear hb3 T2 X1 hp2 HB2 HB3 R HI hf1
  go_wp2_with fail
  refine bodyPost_ret (v := .tuple #[.agg #[.slice A1 n c1, .int .i64 x], .int .i64 0]) (by simp [results, Tryd.results12, go_sem, R0, R1]) rfl ⟨⟨A1, c1, rfl, FL.out.only ZO.out (fun ad h => by have := hf1'.out ad h; omega), fun ad h => by have := hf1'.out ad h; omega⟩, ZB.out⟩
set_option maxRecDepth 100000 in
set_option maxHeartbeats 2000000 in
theorem ref3_of_no_some (ad : Addr) (n c : Nat) (x : Int) (z : Nat → Int) (w : World) (hz : FlatAt w (some ad) 2 n z) (hn : n ≤ 300) (ht : ¬ IsTab z n x) :
    Calls Tryd.prog 12 #[.int .i64 x, .slice (some ad) n c] w fun e w' => e = .returned (.tuple #[.agg #[.slice none 0 0, .int .i64 0], .int .i64 12]) ∧ Below w.heap.size w w' := by
  obtain ⟨i0, hi, hz0, hz1, hz2⟩ := info_parts leap_info
  have HB0 : Below w.heap.size w ((w.alloc (.cells #[.slice none 0 0, .int .i64 0] 24)).alloc (.cells #[] 33)) := by (repeat' (first | (with_reducible exact Below.refl _ _) | (with_reducible assumption) | (with_reducible refine Below.trans ?_ (Below.mono (by with_reducible assumption) ?_)) | (with_reducible refine Below.alloc ?_ ?_ _) | (with_reducible refine Below.setCell ?_ ?_ _) | (with_reducible refine below_drewN ?_ _) | (with_reducible refine Below.drew ?_) | go_size))
  have T0 : Tb ((w.alloc (.cells #[.slice none 0 0, .int .i64 0] 24)).alloc (.cells #[] 33)) w.heap.size (.slice none 0 0) 0 := ⟨by simp [go_sem], by simp [go_sem], by simp [go_sem], by simp [go_sem], by simp [World.size_alloc]; try omega⟩
  have hm : ((w.alloc (.cells #[.slice none 0 0, .int .i64 0] 24)).alloc (.cells #[] 33)).ownsRow (w.heap.size + 1) 33 2 (.slice (some ⟨w.heap.size + 1, 0, none⟩) 0 0) 0 [] := by
    have := World.ownsRow_made (base := w.heap.size + 1) (e := 33) (size := 2) (w.alloc (.cells #[.slice none 0 0, .int .i64 0] 24)) #[] 0 (by simp) (Nat.zero_le _) rfl
    simpa using this
  have HT := Lib.hid ht
  have hsrc := (hz.below HB0).cells
  have HZ := Lib.hid hz.bd
  clear hz ht
  go_enter Tryd.func12, Tryd.ntmps12
  go_wp2_with (at_builtin; refine wpList_append_own _ rfl (.tmp 7) (.tmp 8) _ rfl (w.heap.size + 1) 33 i0 _ 2 16 Tryd.underlying22 hi hz0 hz1 hz2 rfl (by decide) (.slice (some ⟨w.heap.size + 1, 0, none⟩) 0 0) 0 [] rfl hm ad n c (cellsOf z (n * 2)) rfl (cellsOf_len _ _) hsrc (cellsOf_one _ _) (by unfold maxLen; omega) (by omega) (by simp) ?_; intro v1 w1 hown1 hg1 hat1; have hown : w1.ownsRow (w.heap.size + 1) 33 2 v1 n (cellsOf z (n * 2)) := (by simpa using hown1); have HB01 : Below (w.heap.size + 1) ((w.alloc (.cells #[.slice none 0 0, .int .i64 0] 24)).alloc (.cells #[] 33)) w1 := (Below.refl _ _).grown hg1 (by simp) (fun k hk => (by simp [Value.ownBlock] at hk; omega)); obtain ⟨A1, c1, rfl, hp1, hf1⟩ := own_flat2 hown HZ.out; clear hown hown1 hg1 hat1)
  have HB1 : Below w.heap.size w w1 := HB0.trans (HB01.mono (by omega))
  clear hsrc HB0 HZ hm
  have T1 : Tb w1 w.heap.size (.slice none 0 0) 0 := T0.below0 HB01 (by omega)
  have HW : Below w1.heap.size w1 (w1.alloc (.cells #[.slice A1 n c1, .int .i64 x] 24)) := by (repeat' (first | (with_reducible exact Below.refl _ _) | (with_reducible assumption) | (with_reducible refine Below.trans ?_ (Below.mono (by with_reducible assumption) ?_)) | (with_reducible refine Below.alloc ?_ ?_ _) | (with_reducible refine Below.setCell ?_ ?_ _) | (with_reducible refine below_drewN ?_ _) | (with_reducible refine Below.drew ?_) | go_size))
  have X1 : Tb (w1.alloc (.cells #[.slice A1 n c1, .int .i64 x] 24)) w1.heap.size (.slice A1 n c1) x := ⟨by simp [go_sem], by simp [go_sem], by simp [go_sem], by simp [go_sem], by simp⟩
  have T2 := T1.below HW
  have hp2 := hp1.below HW
  have HB2 := HB1.trans (HW.mono HB1.size)
  have HI := Lib.hid (ref3_is A1 n c1 x z _ false hp2 (by unfold maxLen; omega) (by simp [HT.out]))
  have h1lt := T1.lt
  clear T0 T1 hp1 HW HB1 HB01
  go_wp2_with fail
  refine HI.out.mono ?_; rintro e w3 ⟨rfl, hb3⟩
  have HB3 := HB2.trans (hb3.mono HB2.size)
  have T3 := T2.below hb3
  have X3 := X1.below hb3
  have R := (T3.set0 (.slice none 0 0)).set1 0
  have R0 := R.c0
  have R1 := R.c1
  obtain ⟨t0, t1, tf0, tf1, tl⟩ := T3
  have ZB := Lib.hid ((HB3.setCell (p := ⟨w.heap.size, 0, none⟩) (Nat.le_refl _) (.slice none 0 0)).setCell (p := ⟨w.heap.size, 1, none⟩) (Nat.le_refl _) (.int .i64 0))
  clear hb3 T2 X1 hp2 HB2 HB3 R HI hf1 X3
  go_wp2_with fail
  refine bodyPost_ret (v := .tuple #[.agg #[.slice none 0 0, .int .i64 0], .int .i64 12]) (by simp [results, Tryd.results12, go_sem, R0, R1]) rfl ⟨rfl, ZB.out⟩
set_option maxRecDepth 100000 in
set_option maxHeartbeats 2000000 in
theorem ref3_of_no_none (x : Int) (z : Nat → Int) (w : World) :
    Calls Tryd.prog 12 #[.int .i64 x, .slice none 0 0] w fun e w' => e = .returned (.tuple #[.agg #[.slice none 0 0, .int .i64 0], .int .i64 12]) ∧ Below w.heap.size w w' := by
  obtain ⟨i0, hi, hz0, hz1, hz2⟩ := info_parts leap_info
  have ht : ¬ IsTab z 0 x := fun h => by have := h.1; omega
  have HB0 : Below w.heap.size w ((w.alloc (.cells #[.slice none 0 0, .int .i64 0] 24)).alloc (.cells #[] 33)) := by (repeat' (first | (with_reducible exact Below.refl _ _) | (with_reducible assumption) | (with_reducible refine Below.trans ?_ (Below.mono (by with_reducible assumption) ?_)) | (with_reducible refine Below.alloc ?_ ?_ _) | (with_reducible refine Below.setCell ?_ ?_ _) | (with_reducible refine below_drewN ?_ _) | (with_reducible refine Below.drew ?_) | go_size))
  have T0 : Tb ((w.alloc (.cells #[.slice none 0 0, .int .i64 0] 24)).alloc (.cells #[] 33)) w.heap.size (.slice none 0 0) 0 := ⟨by simp [go_sem], by simp [go_sem], by simp [go_sem], by simp [go_sem], by simp [World.size_alloc]; try omega⟩
  have hm : ((w.alloc (.cells #[.slice none 0 0, .int .i64 0] 24)).alloc (.cells #[] 33)).ownsRow (w.heap.size + 1) 33 2 (.slice (some ⟨w.heap.size + 1, 0, none⟩) 0 0) 0 [] := by
    have := World.ownsRow_made (base := w.heap.size + 1) (e := 33) (size := 2) (w.alloc (.cells #[.slice none 0 0, .int .i64 0] 24)) #[] 0 (by simp) (Nat.zero_le _) rfl
    simpa using this
  have HT := Lib.hid ht
  clear ht
  go_enter Tryd.func12, Tryd.ntmps12
  go_wp2_with (at_builtin; refine wpList_append_own_none rfl (.tmp 7) (.tmp 8) _ rfl (w.heap.size + 1) 33 i0 2 Tryd.underlying22 hi (.slice (some ⟨w.heap.size + 1, 0, none⟩) 0 0) 0 [] rfl hm rfl ?_)
  generalize hw1 : ((w.alloc (.cells #[.slice none 0 0, .int .i64 0] 24)).alloc (.cells #[] 33)) = w1 at *
  have HB1 := HB0
  have hf1 : True := trivial
  have hp1 : FlatAt w1 (some ⟨w.heap.size + 1, 0, none⟩) 2 0 z := FlatAt.empty _ _ _ _
  clear hm hw1 HB0
  have T1 : Tb w1 w.heap.size (.slice none 0 0) 0 := T0
  have HW : Below w1.heap.size w1 (w1.alloc (.cells #[.slice (some ⟨w.heap.size + 1, 0, none⟩) 0 0, .int .i64 x] 24)) := by (repeat' (first | (with_reducible exact Below.refl _ _) | (with_reducible assumption) | (with_reducible refine Below.trans ?_ (Below.mono (by with_reducible assumption) ?_)) | (with_reducible refine Below.alloc ?_ ?_ _) | (with_reducible refine Below.setCell ?_ ?_ _) | (with_reducible refine below_drewN ?_ _) | (with_reducible refine Below.drew ?_) | go_size))
  have X1 : Tb (w1.alloc (.cells #[.slice (some ⟨w.heap.size + 1, 0, none⟩) 0 0, .int .i64 x] 24)) w1.heap.size (.slice (some ⟨w.heap.size + 1, 0, none⟩) 0 0) x := ⟨by simp [go_sem], by simp [go_sem], by simp [go_sem], by simp [go_sem], by simp⟩
  have T2 := T1.below HW
  have hp2 := hp1.below HW
  have HB2 := HB1.trans (HW.mono HB1.size)
  have HI := Lib.hid (ref3_is (some ⟨w.heap.size + 1, 0, none⟩) 0 0 x z _ false hp2 (by unfold maxLen; omega) (by simp [HT.out]))
  have h1lt := T1.lt
  clear T0 T1 hp1 HW HB1
  go_wp2_with fail
  refine HI.out.mono ?_; rintro e w3 ⟨rfl, hb3⟩
  have HB3 := HB2.trans (hb3.mono HB2.size)
  have T3 := T2.below hb3
  have X3 := X1.below hb3
  have R := (T3.set0 (.slice none 0 0)).set1 0
  have R0 := R.c0
  have R1 := R.c1
  obtain ⟨t0, t1, tf0, tf1, tl⟩ := T3
  have ZB := Lib.hid ((HB3.setCell (p := ⟨w.heap.size, 0, none⟩) (Nat.le_refl _) (.slice none 0 0)).setCell (p := ⟨w.heap.size, 1, none⟩) (Nat.le_refl _) (.int .i64 0))
  clear hb3 T2 X1 hp2 HB2 HB3 R HI hf1 X3
  go_wp2_with fail
  refine bodyPost_ret (v := .tuple #[.agg #[.slice none 0 0, .int .i64 0], .int .i64 12]) (by simp [results, Tryd.results12, go_sem, R0, R1]) rfl ⟨rfl, ZB.out⟩
end Go.Proofs.YtonleiffbfdikaaDoor
