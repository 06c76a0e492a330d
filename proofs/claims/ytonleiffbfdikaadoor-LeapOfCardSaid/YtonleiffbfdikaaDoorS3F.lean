/- Stage 3: LeapOf: a table of any leaps, a copy of its own: for every table: written by gen/s3f.py. -/
import Derived.Test.YtonleiffbfdikaaDoorDoor3
import Derived.Test.YtonleiffbfdikaaDoorLeapOf2
import Derived.Test.YtonleiffbfdikaaDoorRowSet
set_option linter.unusedSimpArgs false
set_option linter.unusedVariables false
namespace Go.Proofs.YtonleiffbfdikaaDoor
open Go.ChangeShapes Go.WideShapes Go.ChangeAt Go.RowKit Go.Joins

theorem own_flat3 {w : World} {base : Nat} {e : TypeId} {v : Value} {n : Nat} {z : Nat → Int} (h : w.ownsRow base e 2 v n (cellsOf z (n * 2))) (hz : ∀ j, j < n * 2 → -9223372036854775808 ≤ z j ∧ z j ≤ 9223372036854775807) :
    ∃ (A : Option Addr) (c : Nat), v = .slice A n c ∧ FlatAt w A 2 n z ∧ (A = none → n = 0 ∧ c = 0) ∧ (0 < n → ∃ g cur, A = some ⟨g, 0, none⟩ ∧ base ≤ g ∧ w.heap[g]? = some (.cells cur e (0, 0)) ∧ n * 2 ≤ cur.size) := by
  have hc0 := fun g hg => h.cells (g := g) hg
  have hl0 := fun g hg => h.lt g hg
  rcases h.2 with ⟨rfl, rfl⟩ | ⟨g, cap, cur, rfl, hb, hh, h1, h2, h3, _⟩
  · exact ⟨none, 0, rfl, FlatAt.empty _ _ _ _, fun _ => ⟨rfl, rfl⟩, fun h => absurd h (by omega)⟩
  · refine ⟨_, _, rfl, fun hn => ⟨g, 0, rfl, (hl0 g rfl).2, fun j hj => ⟨?_, hz j hj⟩⟩, fun h => (by cases h), fun _ => ⟨g, cur, rfl, hb, hh, by rw [h3]; exact Nat.mul_le_mul_right _ h1⟩⟩
    have := hc0 g rfl j _ (cellsOf_at z (n * 2) j hj)
    rwa [at_add] at this
theorem Tb.only {g : Nat} {w w' : World} {b : Nat} {v : Value} {x : Int} (h : Tb w b v x) (k : Only g w w') (hne : b ≠ g) : Tb w' b v x :=
  ⟨(k.cell _ _ h.lt hne).trans h.c0, (k.cell _ _ h.lt hne).trans h.c1, (k.frozen _ _ h.lt hne).trans h.f0, (k.frozen _ _ h.lt hne).trans h.f1, Nat.lt_of_lt_of_le h.lt k.size⟩
set_option maxHeartbeats 1000000 in
theorem of_out (A : Option Addr) (n c : Nat) (x : Int) (w : World) (h : 300 < n) :
    Calls Tryd.prog 3 #[.agg #[.slice A n c, .int .i64 x]] w fun e w' => e = .returned (.bool true) ∧ Below w.heap.size w w' := by
  have k1 : decide ((300 : Int) < (n : Int)) = true := by simp only [decide_eq_true_eq]; omega
  clear h
  go_enter Tryd.func3, Tryd.ntmps3
  go_wp2
  go_ret
  go_light
  exact ⟨rfl, by (repeat' (first | (with_reducible exact Below.refl _ _) | (with_reducible assumption) | (with_reducible refine Below.trans ?_ (Below.mono (by with_reducible assumption) ?_)) | (with_reducible refine Below.alloc ?_ ?_ _) | (with_reducible refine Below.setCell ?_ ?_ _) | (with_reducible refine below_drewN ?_ _) | (with_reducible refine Below.drew ?_) | go_size))⟩
theorem row_frozen' {w : World} {g : Nat} {cur : Array Value} {e : TypeId} (h : w.heap[g]? = some (.cells cur e (0, 0))) (o : Nat) : w.frozen? ⟨g, o, none⟩ = false := by simp [World.frozen?, h]
set_option maxRecDepth 100000 in
theorem open_table' {H : Type} {enc : TypeId × Value → H} {w : World} {r : Reach} {base b0 : Nat} {sp : Nat → Bool} {v : Value} {d : DataW H} {p : List MemPlace}
    (hv : Value.okWide Tryd.prog w r b0 24 v) (h : DataW.Trod enc Tryd.prog w base sp true 24 v d p) :
    ∃ (A : Option Addr) (n c : Nat) (z : Nat → Int) (x : Int), v = .agg #[.slice A n c, .int .i64 x] ∧ n ≤ maxLen ∧ FlatAt w A 2 n z ∧ (Lit.int .i64 x).wf = true ∧ (A = none → n = 0 ∧ c = 0) := by
  obtain ⟨c0, c1, y0, y1, n, rfl, rfl, rfl, hy0, hy1⟩ := open_agg2 Tryd.underlying24 (by kernel_rfl) table_cells hv h
  obtain ⟨A, m, c, z, rfl, hm, hz⟩ := open_flat_trod (m := 2) Tryd.underlying22 (by kernel_rfl) (by kernel_rfl) (by omega) hy0
  obtain ⟨a, e1, _, wa⟩ := DataW.trod_int Tryd.underlying3 hy1
  simp at e1
  subst e1
  exact ⟨A, m, c, z, a, rfl, hm, hz, wa, fun h => by subst h; exact nil_shape Tryd.underlying22 ⟨_, hy0⟩⟩
set_option maxRecDepth 100000 in
set_option maxHeartbeats 4000000 in
theorem of_yes (ad : Addr) (n : Nat) (c : Nat) (x : Int) (z : Nat → Int) (w : World) (hm : Mx w) (hz : FlatAt w (some ad) 2 n z) (hn : n ≤ 300) (h0 : 0 < n) (ht : IsTab z n x) :
    Calls Tryd.prog 3 #[.agg #[.slice (some ad) n c, .int .i64 x]] w fun e w' => e = .returned (.bool true) ∧ Below w.heap.size w w' := by
  obtain ⟨i0, hi, hz0, hz1, hz2⟩ := info_parts leap_info
  have HB0 : Below w.heap.size w ((w.alloc (.cells #[.slice (some ad) n c, .int .i64 x] 24)).alloc (.cells #[] 33)) := by (repeat' (first | (with_reducible exact Below.refl _ _) | (with_reducible assumption) | (with_reducible refine Below.trans ?_ (Below.mono (by with_reducible assumption) ?_)) | (with_reducible refine Below.alloc ?_ ?_ _) | (with_reducible refine Below.setCell ?_ ?_ _) | (with_reducible refine below_drewN ?_ _) | (with_reducible refine Below.drew ?_) | go_size))
  have B0 : Tb ((w.alloc (.cells #[.slice (some ad) n c, .int .i64 x] 24)).alloc (.cells #[] 33)) w.heap.size (.slice (some ad) n c) x := ⟨by simp [go_sem], by simp [go_sem], by simp [go_sem], by simp [go_sem], by simp [World.size_alloc]; try omega⟩
  have hmade : ((w.alloc (.cells #[.slice (some ad) n c, .int .i64 x] 24)).alloc (.cells #[] 33)).ownsRow (w.heap.size + 1) 33 2 (.slice (some ⟨w.heap.size + 1, 0, none⟩) 0 0) 0 [] := by
    have := World.ownsRow_made (base := w.heap.size + 1) (e := 33) (size := 2) (w.alloc (.cells #[.slice (some ad) n c, .int .i64 x] 24)) #[] 0 (by simp) (Nat.zero_le _) rfl
    simpa using this
  have HM := Lib.hid hm
  have HT := Lib.hid ht
  have HF := Lib.hid hz
  have t1 : decide ((300 : Int) < (n : Int)) = false := by simp only [decide_eq_false_iff_not]; omega
  have t0 : ¬ (n : Int) = 0 := by omega
  have hsrc := (hz.below HB0).cells
  clear hz ht hm
  go_enter Tryd.func3, Tryd.ntmps3
  go_wp2_with (at_builtin; refine wpList_append_own _ rfl (.tmp 14) (.tmp 16) _ rfl (w.heap.size + 1) 33 i0 _ 2 16 Tryd.underlying22 hi hz0 hz1 hz2 rfl (by decide) (.slice (some ⟨w.heap.size + 1, 0, none⟩) 0 0) 0 [] rfl hmade ad n c (cellsOf z (n * 2)) rfl (cellsOf_len _ _) hsrc (cellsOf_one _ _) (by unfold maxLen; omega) (by omega) (by simp) ?_; intro v1 w1 hown1 hg1 hat1; have hown : w1.ownsRow (w.heap.size + 1) 33 2 v1 n (cellsOf z (n * 2)) := (by simpa using hown1); have HB01 : Below (w.heap.size + 1) ((w.alloc (.cells #[.slice (some ad) n c, .int .i64 x] 24)).alloc (.cells #[] 33)) w1 := (Below.refl _ _).grown hg1 (by simp) (fun k hk => (by simp [Value.ownBlock] at hk; omega)); obtain ⟨A1, c1, rfl, hp1, hnl, hrow⟩ := own_flat3 hown HF.out.bd; have T1 := B0.below0 HB01 (by omega); obtain ⟨x0, x1, xf0, xf1, xl⟩ := T1; clear hown hown1 hg1 hat1)
  have T1 : Tb w1 w.heap.size (.slice (some ad) n c) x := ⟨x0, x1, xf0, xf1, xl⟩
  have HB1 : Below w.heap.size w w1 := HB0.trans (HB01.mono (by omega))
  have HS1 : w.heap.size + 1 < w1.heap.size := by have := HB01.size; simp [World.size_alloc] at this; omega
  clear hsrc HB0 hmade HB01 B0 x0 x1 xf0 xf1 xl
  obtain ⟨g, cur, rfl, hgb, hgh, hgs⟩ := hrow h0
  have HG := Lib.hid hgh
  have hgl : g < w1.heap.size := (Array.getElem?_eq_some_iff.1 hgh).1
  clear hgh hnl
  refine (leap_of_yes (some ⟨g, 0, none⟩) n c1 x z w1 hp1 hn (fun h => by cases h) HT.out).mono ?_; rintro e w2 ⟨⟨A2, c2, rfl, hp2, hf2⟩, hb2⟩
  have HB2 := HB1.trans (hb2.mono HB1.size)
  have T2 := T1.below hb2
  have hp1' := hp1.below hb2
  have hs2 := hb2.size
  have HW2 : Below w2.heap.size w2 (w2.alloc (.cells #[.slice A2 n c2, .int .i64 x] 24)) := by (repeat' (first | (with_reducible exact Below.refl _ _) | (with_reducible assumption) | (with_reducible refine Below.trans ?_ (Below.mono (by with_reducible assumption) ?_)) | (with_reducible refine Below.alloc ?_ ?_ _) | (with_reducible refine Below.setCell ?_ ?_ _) | (with_reducible refine below_drewN ?_ _) | (with_reducible refine Below.drew ?_) | go_size))
  have XA : Tb (w2.alloc (.cells #[.slice A2 n c2, .int .i64 x] 24)) w2.heap.size (.slice A2 n c2) x := ⟨by simp [go_sem], by simp [go_sem], by simp [go_sem], by simp [go_sem], by simp⟩
  have T3 := T2.below HW2
  have hp1'' := hp1'.below HW2
  have HB3 := HB2.trans (HW2.mono HB2.size)
  have hp2' := hp2.below HW2
  have hg2 := (hb2.block g hgl).trans HG.out
  have hg3 : (w2.alloc (.cells #[.slice A2 n c2, .int .i64 x] 24)).heap[g]? = some (.cells cur 33 (0, 0)) := (HW2.block g (by omega)).trans hg2
  have HG3 := Lib.hid hg3
  obtain ⟨y0, y1, yf0, yf1, yl⟩ := T3
  clear hb2 T1 T2 hp1 hp1' HW2 HB1 HB2 hg2 hg3 hp2
  go_wp2_with fail
  have T3 : Tb (w2.alloc (.cells #[.slice A2 n c2, .int .i64 x] 24)) w.heap.size (.slice (some ad) n c) x := ⟨y0, y1, yf0, yf1, yl⟩
  clear y0 y1 yf0 yf1 yl
  refine (ref3_of_yes_some ad n c x z _ (HF.out.below HB3) hn HT.out).mono ?_; rintro e w3 ⟨⟨A3, c3, rfl, hp3, hf3⟩, hb3⟩
  have HB4 := HB3.trans (hb3.mono HB3.size)
  have T4 := T3.below hb3
  have XA3 := XA.below hb3
  have hq1 := hp1''.below hb3
  have hs3 := hb3.size
  (simp only [World.size_alloc] at hs3)
  have HW3 : Below w3.heap.size w3 (w3.alloc (.cells #[.slice A3 n c3, .int .i64 x] 24)) := by (repeat' (first | (with_reducible exact Below.refl _ _) | (with_reducible assumption) | (with_reducible refine Below.trans ?_ (Below.mono (by with_reducible assumption) ?_)) | (with_reducible refine Below.alloc ?_ ?_ _) | (with_reducible refine Below.setCell ?_ ?_ _) | (with_reducible refine below_drewN ?_ _) | (with_reducible refine Below.drew ?_) | go_size))
  have XB : Tb (w3.alloc (.cells #[.slice A3 n c3, .int .i64 x] 24)) w3.heap.size (.slice A3 n c3) x := ⟨by simp [go_sem], by simp [go_sem], by simp [go_sem], by simp [go_sem], by simp⟩
  have T5 := T4.below HW3
  have XA4 := XA3.below HW3
  have hq2 := hq1.below HW3
  have HB5 := HB4.trans (HW3.mono HB4.size)
  have ha4 := (hp2'.below hb3).below HW3
  have hb4 := hp3.below HW3
  have hg4 := (hb3.block g (by simp only [World.size_alloc]; omega)).trans HG3.out
  have hg5 : (w3.alloc (.cells #[.slice A3 n c3, .int .i64 x] 24)).heap[g]? = some (.cells cur 33 (0, 0)) := (HW3.block g (by omega)).trans hg4
  have HG5 := Lib.hid hg5
  clear T3 T4 XA XA3 hp1'' hq1 HW3 HB3 HB4 hb3 hg4 hg5 HG3 HG hp2' hp3
  have hVs : (w3.alloc (.cells #[.slice A3 n c3, .int .i64 x] 24)).heap.size = w3.heap.size + 1 := by simp [World.size_alloc]
  have HVS := Lib.hid hVs
  obtain ⟨y0, y1, yf0, yf1, yl⟩ := T5
  clear hVs
  go_wp2_with fail
  refine (tables_same (some ⟨g, 0, none⟩) (some ad) n c1 c 0 z _ hq2 (HF.out.below HB5) (by omega)).mono ?_; rintro e w6 ⟨rfl, hb6⟩
  have HB6 := HB5.trans (hb6.mono HB5.size)
  have T6 : Tb w6 w.heap.size (.slice (some ad) n c) x := Tb.below ⟨y0, y1, yf0, yf1, yl⟩ hb6
  have XA6 := XA4.below hb6
  have XB6 := XB.below hb6
  have hs6 := hb6.size
  have ha6 := ha4.below hb6
  have hb6' := hb4.below hb6
  have HG6 := Lib.hid ((hb6.block g (by have := HVS.out; omega)).trans HG5.out)
  obtain ⟨q0, q1, qf0, qf1, ql⟩ := T6
  clear hb6 HB5 XA4 XB hq2 y0 y1 yf0 yf1 yl HG5 ha4 hb4
  go_wp2_with fail
  refine (leap_is_yes (some ad) n c x z _ (HF.out.below HB6) HT.out).mono ?_; rintro e w7 ⟨rfl, hb7⟩
  have HB7 := HB6.trans (hb7.mono HB6.size)
  have XA7 := XA6.below hb7
  have XB7 := XB6.below hb7
  have hs7 := hb7.size
  have ha7 := ha6.below hb7
  have hb7' := hb6'.below hb7
  have HG7 := Lib.hid ((hb7.block g (by have := HVS.out; omega)).trans HG6.out)
  have hz7 : w3.heap.size < w7.heap.size := by have := HVS.out; omega
  clear hb7 HB6 XA6 XB6 q0 q1 qf0 qf1 ql HG6 ha6 hb6'
  have hne2 : w2.heap.size ≠ g := by omega
  have hne3 : w3.heap.size ≠ g := by omega
  have hneA : Hid (∀ ad, A2 = some ad → ad.block ≠ g) := fun ad h => by have := hf2 ad h; omega
  have hneB : Hid (∀ ad, A3 = some ad → ad.block ≠ g) := fun ad h => by have := hf3 ad h; simp only [World.size_alloc] at this; omega
  clear hf2 hf3
  go_wp2
  go_loopw [9] (fun i wr => ∃ k : Nat, k ≤ n ∧ i = .int .i64 k ∧ Below w.heap.size w wr ∧ Tb wr w2.heap.size (.slice A2 n c2) x ∧ Tb wr w3.heap.size (.slice A3 n c3) x ∧ FlatAt wr A2 2 n z ∧ FlatAt wr A3 2 n z ∧ ∃ cur, wr.heap[g]? = some (.cells cur 33 (0, 0)) ∧ n * 2 ≤ cur.size) (fun i _ => n - (intOf i).toNat)
  case atStart => exact ⟨0, Nat.zero_le _, rfl, HB7, XA7, XB7, ha7, hb7', cur, HG7.out, hgs⟩
  case round =>
    clear XA7 XB7 HB7 HG7 ha7 hb7'
    obtain ⟨k, hk, rfl, HBZ, XAZ, XBZ, FA, FB, cur', hh, hcs⟩ := hrel
    by_cases hlt : k < n
    · have t2 : ((k : Int) < (n : Int)) := by omega
      have hf := row_frozen' hh (k * 2)
      obtain ⟨u, hu⟩ : ∃ u, wr.cell? ⟨g, k * 2, none⟩ = some u := ⟨cur'[k * 2]'(by omega), by rw [cell_of_row wr g (k * 2) cur' _ (0, 0) hh]; exact Array.getElem?_eq_getElem (by omega)⟩
      have ZO : Hid (Only g wr (wr.setCell ⟨g, k * 2, none⟩ (.int .i64 (-5)))) := (Only.refl _ wr).setB _
      have HH := Lib.hid (heap_setCell1 (o := k * 2) hh (.int .i64 (-5)))
      have ZB := Lib.hid (HBZ.setCell (p := ⟨g, k * 2, none⟩) (by show w.heap.size ≤ g; omega) (.int .i64 (-5)))
      clear hh HBZ hlt
      go_wp2
      exact ⟨⟨k + 1, by omega, by simp, ZB.out, XAZ.only ZO.out hne2, XBZ.only ZO.out hne3, FA.only ZO.out hneA.out, FB.only ZO.out hneB.out, _, HH.out, by simpa using hcs⟩, by simp [intOf]; omega⟩
    · have t2 : ¬ ((k : Int) < (n : Int)) := by omega
      clear hh hcs hlt
      obtain ⟨p0, p1, pf0, pf1, pl⟩ := XAZ
      obtain ⟨r0, r1, rf0, rf1, rl⟩ := XBZ
      go_wp2_with fail
      refine (tables_same A2 A3 n c2 c3 x z wr FA FB (by omega)).mono ?_; rintro e w8 ⟨rfl, hb8⟩
      have HB8 := HBZ.trans (hb8.mono HBZ.size)
      go_wp2_with fail
      refine (known3 _ (HM.out.below HB8)).mono ?_; rintro e w9 ⟨rfl, hb9⟩
      have HB9 := HB8.trans (hb9.mono HB8.size)
      clear hb8 hb9
      go_wp2
      go_ret
      exact ⟨rfl, HB9⟩
set_option maxRecDepth 100000 in
set_option maxHeartbeats 4000000 in
theorem of_no (ad : Addr) (n : Nat) (c : Nat) (x : Int) (z : Nat → Int) (w : World) (hm : Mx w) (hz : FlatAt w (some ad) 2 n z) (hn : n ≤ 300) (h0 : 0 < n) (ht : ¬ IsTab z n x) :
    Calls Tryd.prog 3 #[.agg #[.slice (some ad) n c, .int .i64 x]] w fun e w' => e = .returned (.bool true) ∧ Below w.heap.size w w' := by
  obtain ⟨i0, hi, hz0, hz1, hz2⟩ := info_parts leap_info
  have HB0 : Below w.heap.size w ((w.alloc (.cells #[.slice (some ad) n c, .int .i64 x] 24)).alloc (.cells #[] 33)) := by (repeat' (first | (with_reducible exact Below.refl _ _) | (with_reducible assumption) | (with_reducible refine Below.trans ?_ (Below.mono (by with_reducible assumption) ?_)) | (with_reducible refine Below.alloc ?_ ?_ _) | (with_reducible refine Below.setCell ?_ ?_ _) | (with_reducible refine below_drewN ?_ _) | (with_reducible refine Below.drew ?_) | go_size))
  have B0 : Tb ((w.alloc (.cells #[.slice (some ad) n c, .int .i64 x] 24)).alloc (.cells #[] 33)) w.heap.size (.slice (some ad) n c) x := ⟨by simp [go_sem], by simp [go_sem], by simp [go_sem], by simp [go_sem], by simp [World.size_alloc]; try omega⟩
  have hmade : ((w.alloc (.cells #[.slice (some ad) n c, .int .i64 x] 24)).alloc (.cells #[] 33)).ownsRow (w.heap.size + 1) 33 2 (.slice (some ⟨w.heap.size + 1, 0, none⟩) 0 0) 0 [] := by
    have := World.ownsRow_made (base := w.heap.size + 1) (e := 33) (size := 2) (w.alloc (.cells #[.slice (some ad) n c, .int .i64 x] 24)) #[] 0 (by simp) (Nat.zero_le _) rfl
    simpa using this
  have HM := Lib.hid hm
  have HT := Lib.hid ht
  have HF := Lib.hid hz
  have t1 : decide ((300 : Int) < (n : Int)) = false := by simp only [decide_eq_false_iff_not]; omega
  have t0 : ¬ (n : Int) = 0 := by omega
  have hsrc := (hz.below HB0).cells
  clear hz ht hm
  go_enter Tryd.func3, Tryd.ntmps3
  go_wp2_with (at_builtin; refine wpList_append_own _ rfl (.tmp 14) (.tmp 16) _ rfl (w.heap.size + 1) 33 i0 _ 2 16 Tryd.underlying22 hi hz0 hz1 hz2 rfl (by decide) (.slice (some ⟨w.heap.size + 1, 0, none⟩) 0 0) 0 [] rfl hmade ad n c (cellsOf z (n * 2)) rfl (cellsOf_len _ _) hsrc (cellsOf_one _ _) (by unfold maxLen; omega) (by omega) (by simp) ?_; intro v1 w1 hown1 hg1 hat1; have hown : w1.ownsRow (w.heap.size + 1) 33 2 v1 n (cellsOf z (n * 2)) := (by simpa using hown1); have HB01 : Below (w.heap.size + 1) ((w.alloc (.cells #[.slice (some ad) n c, .int .i64 x] 24)).alloc (.cells #[] 33)) w1 := (Below.refl _ _).grown hg1 (by simp) (fun k hk => (by simp [Value.ownBlock] at hk; omega)); obtain ⟨A1, c1, rfl, hp1, hnl, hrow⟩ := own_flat3 hown HF.out.bd; have T1 := B0.below0 HB01 (by omega); obtain ⟨x0, x1, xf0, xf1, xl⟩ := T1; clear hown hown1 hg1 hat1)
  have T1 : Tb w1 w.heap.size (.slice (some ad) n c) x := ⟨x0, x1, xf0, xf1, xl⟩
  have HB1 : Below w.heap.size w w1 := HB0.trans (HB01.mono (by omega))
  have HS1 : w.heap.size + 1 < w1.heap.size := by have := HB01.size; simp [World.size_alloc] at this; omega
  clear hsrc HB0 hmade HB01 B0 x0 x1 xf0 xf1 xl
  obtain ⟨g, cur, rfl, hgb, hgh, hgs⟩ := hrow h0
  have HG := Lib.hid hgh
  have hgl : g < w1.heap.size := (Array.getElem?_eq_some_iff.1 hgh).1
  clear hgh hnl
  refine (leap_of_no (some ⟨g, 0, none⟩) n c1 x z w1 hp1 (by omega) (fun h => by cases h) HT.out).mono ?_; rintro e w2 ⟨rfl, hb2⟩
  have HB2 := HB1.trans (hb2.mono HB1.size)
  have T2 := T1.below hb2
  have hp1' := hp1.below hb2
  have hs2 := hb2.size
  have HW2 : Below w2.heap.size w2 (w2.alloc (.cells #[.slice none 0 0, .int .i64 0] 24)) := by (repeat' (first | (with_reducible exact Below.refl _ _) | (with_reducible assumption) | (with_reducible refine Below.trans ?_ (Below.mono (by with_reducible assumption) ?_)) | (with_reducible refine Below.alloc ?_ ?_ _) | (with_reducible refine Below.setCell ?_ ?_ _) | (with_reducible refine below_drewN ?_ _) | (with_reducible refine Below.drew ?_) | go_size))
  have XA : Tb (w2.alloc (.cells #[.slice none 0 0, .int .i64 0] 24)) w2.heap.size (.slice none 0 0) 0 := ⟨by simp [go_sem], by simp [go_sem], by simp [go_sem], by simp [go_sem], by simp⟩
  have T3 := T2.below HW2
  have hp1'' := hp1'.below HW2
  have HB3 := HB2.trans (HW2.mono HB2.size)
  have hg2 := (hb2.block g hgl).trans HG.out
  have hg3 : (w2.alloc (.cells #[.slice none 0 0, .int .i64 0] 24)).heap[g]? = some (.cells cur 33 (0, 0)) := (HW2.block g (by omega)).trans hg2
  have HG3 := Lib.hid hg3
  obtain ⟨y0, y1, yf0, yf1, yl⟩ := T3
  clear hb2 T1 T2 hp1 hp1' HW2 HB1 HB2 hg2 hg3
  go_wp2_with fail
  have T3 : Tb (w2.alloc (.cells #[.slice none 0 0, .int .i64 0] 24)) w.heap.size (.slice (some ad) n c) x := ⟨y0, y1, yf0, yf1, yl⟩
  clear y0 y1 yf0 yf1 yl
  refine (ref3_of_no_some ad n c x z _ (HF.out.below HB3) (by omega) HT.out).mono ?_; rintro e w3 ⟨rfl, hb3⟩
  have HB4 := HB3.trans (hb3.mono HB3.size)
  have T4 := T3.below hb3
  have XA3 := XA.below hb3
  have hq1 := hp1''.below hb3
  have hs3 := hb3.size
  (simp only [World.size_alloc] at hs3)
  have HW3 : Below w3.heap.size w3 (w3.alloc (.cells #[.slice none 0 0, .int .i64 0] 24)) := by (repeat' (first | (with_reducible exact Below.refl _ _) | (with_reducible assumption) | (with_reducible refine Below.trans ?_ (Below.mono (by with_reducible assumption) ?_)) | (with_reducible refine Below.alloc ?_ ?_ _) | (with_reducible refine Below.setCell ?_ ?_ _) | (with_reducible refine below_drewN ?_ _) | (with_reducible refine Below.drew ?_) | go_size))
  have XB : Tb (w3.alloc (.cells #[.slice none 0 0, .int .i64 0] 24)) w3.heap.size (.slice none 0 0) 0 := ⟨by simp [go_sem], by simp [go_sem], by simp [go_sem], by simp [go_sem], by simp⟩
  have T5 := T4.below HW3
  have XA4 := XA3.below HW3
  have hq2 := hq1.below HW3
  have HB5 := HB4.trans (HW3.mono HB4.size)
  have hg4 := (hb3.block g (by simp only [World.size_alloc]; omega)).trans HG3.out
  have hg5 : (w3.alloc (.cells #[.slice none 0 0, .int .i64 0] 24)).heap[g]? = some (.cells cur 33 (0, 0)) := (HW3.block g (by omega)).trans hg4
  have HG5 := Lib.hid hg5
  clear T3 T4 XA XA3 hp1'' hq1 HW3 HB3 HB4 hb3 hg4 hg5 HG3 HG
  have hVs : (w3.alloc (.cells #[.slice none 0 0, .int .i64 0] 24)).heap.size = w3.heap.size + 1 := by simp [World.size_alloc]
  have HVS := Lib.hid hVs
  obtain ⟨y0, y1, yf0, yf1, yl⟩ := T5
  clear hVs
  go_wp2_with fail
  refine (tables_same (some ⟨g, 0, none⟩) (some ad) n c1 c 0 z _ hq2 (HF.out.below HB5) (by omega)).mono ?_; rintro e w6 ⟨rfl, hb6⟩
  have HB6 := HB5.trans (hb6.mono HB5.size)
  have T6 : Tb w6 w.heap.size (.slice (some ad) n c) x := Tb.below ⟨y0, y1, yf0, yf1, yl⟩ hb6
  have XA6 := XA4.below hb6
  have XB6 := XB.below hb6
  have hs6 := hb6.size
  have HG6 := Lib.hid ((hb6.block g (by have := HVS.out; omega)).trans HG5.out)
  obtain ⟨q0, q1, qf0, qf1, ql⟩ := T6
  clear hb6 HB5 XA4 XB hq2 y0 y1 yf0 yf1 yl HG5
  go_wp2_with fail
  refine (leap_is_no (some ad) n c x z _ (HF.out.below HB6) (by unfold maxLen; omega) HT.out).mono ?_; rintro e w7 ⟨rfl, hb7⟩
  have HB7 := HB6.trans (hb7.mono HB6.size)
  have XA7 := XA6.below hb7
  have XB7 := XB6.below hb7
  have hs7 := hb7.size
  have HG7 := Lib.hid ((hb7.block g (by have := HVS.out; omega)).trans HG6.out)
  have hz7 : w3.heap.size < w7.heap.size := by have := HVS.out; omega
  clear hb7 HB6 XA6 XB6 q0 q1 qf0 qf1 ql HG6
  have hne2 : w2.heap.size ≠ g := by omega
  have hne3 : w3.heap.size ≠ g := by omega
  go_wp2
  go_loopw [9] (fun i wr => ∃ k : Nat, k ≤ n ∧ i = .int .i64 k ∧ Below w.heap.size w wr ∧ Tb wr w2.heap.size (.slice none 0 0) 0 ∧ Tb wr w3.heap.size (.slice none 0 0) 0 ∧ ∃ cur, wr.heap[g]? = some (.cells cur 33 (0, 0)) ∧ n * 2 ≤ cur.size) (fun i _ => n - (intOf i).toNat)
  case atStart => exact ⟨0, Nat.zero_le _, rfl, HB7, XA7, XB7, cur, HG7.out, hgs⟩
  case round =>
    clear XA7 XB7 HB7 HG7
    obtain ⟨k, hk, rfl, HBZ, XAZ, XBZ, cur', hh, hcs⟩ := hrel
    by_cases hlt : k < n
    · have t2 : ((k : Int) < (n : Int)) := by omega
      have hf := row_frozen' hh (k * 2)
      obtain ⟨u, hu⟩ : ∃ u, wr.cell? ⟨g, k * 2, none⟩ = some u := ⟨cur'[k * 2]'(by omega), by rw [cell_of_row wr g (k * 2) cur' _ (0, 0) hh]; exact Array.getElem?_eq_getElem (by omega)⟩
      have ZO : Hid (Only g wr (wr.setCell ⟨g, k * 2, none⟩ (.int .i64 (-5)))) := (Only.refl _ wr).setB _
      have HH := Lib.hid (heap_setCell1 (o := k * 2) hh (.int .i64 (-5)))
      have ZB := Lib.hid (HBZ.setCell (p := ⟨g, k * 2, none⟩) (by show w.heap.size ≤ g; omega) (.int .i64 (-5)))
      clear hh HBZ hlt
      go_wp2
      exact ⟨⟨k + 1, by omega, by simp, ZB.out, XAZ.only ZO.out hne2, XBZ.only ZO.out hne3, _, HH.out, by simpa using hcs⟩, by simp [intOf]; omega⟩
    · have t2 : ¬ ((k : Int) < (n : Int)) := by omega
      clear hh hcs hlt
      obtain ⟨p0, p1, pf0, pf1, pl⟩ := XAZ
      obtain ⟨r0, r1, rf0, rf1, rl⟩ := XBZ
      go_wp2_with fail
      refine (tables_same none none 0 0 0 0 z wr (FlatAt.empty _ _ _ _) (FlatAt.empty _ _ _ _) (by omega)).mono ?_; rintro e w8 ⟨rfl, hb8⟩
      have HB8 := HBZ.trans (hb8.mono HBZ.size)
      go_wp2_with fail
      refine (known3 _ (HM.out.below HB8)).mono ?_; rintro e w9 ⟨rfl, hb9⟩
      have HB9 := HB8.trans (hb9.mono HB8.size)
      clear hb8 hb9
      go_wp2
      go_ret
      exact ⟨rfl, HB9⟩
set_option maxRecDepth 100000 in
set_option maxHeartbeats 4000000 in
theorem of_empty (ad : Addr) (c : Nat) (x : Int) (z : Nat → Int) (w : World) (hm : Mx w) :
    Calls Tryd.prog 3 #[.agg #[.slice (some ad) 0 c, .int .i64 x]] w fun e w' => e = .returned (.bool true) ∧ Below w.heap.size w w' := by
  obtain ⟨i0, hi, hz0, hz1, hz2⟩ := info_parts leap_info
  have ht : ¬ IsTab z 0 x := fun h => by have := h.1; omega
  have hz : FlatAt w (some ad) 2 0 z := FlatAt.empty _ _ _ _
  have HB0 : Below w.heap.size w ((w.alloc (.cells #[.slice (some ad) 0 c, .int .i64 x] 24)).alloc (.cells #[] 33)) := by (repeat' (first | (with_reducible exact Below.refl _ _) | (with_reducible assumption) | (with_reducible refine Below.trans ?_ (Below.mono (by with_reducible assumption) ?_)) | (with_reducible refine Below.alloc ?_ ?_ _) | (with_reducible refine Below.setCell ?_ ?_ _) | (with_reducible refine below_drewN ?_ _) | (with_reducible refine Below.drew ?_) | go_size))
  have B0 : Tb ((w.alloc (.cells #[.slice (some ad) 0 c, .int .i64 x] 24)).alloc (.cells #[] 33)) w.heap.size (.slice (some ad) 0 c) x := ⟨by simp [go_sem], by simp [go_sem], by simp [go_sem], by simp [go_sem], by simp [World.size_alloc]; try omega⟩
  have hmade : ((w.alloc (.cells #[.slice (some ad) 0 c, .int .i64 x] 24)).alloc (.cells #[] 33)).ownsRow (w.heap.size + 1) 33 2 (.slice (some ⟨w.heap.size + 1, 0, none⟩) 0 0) 0 [] := by
    have := World.ownsRow_made (base := w.heap.size + 1) (e := 33) (size := 2) (w.alloc (.cells #[.slice (some ad) 0 c, .int .i64 x] 24)) #[] 0 (by simp) (Nat.zero_le _) rfl
    simpa using this
  have HM := Lib.hid hm
  have HT := Lib.hid ht
  have HF := Lib.hid hz
  have hsrc := (hz.below HB0).cells
  clear hz ht hm
  go_enter Tryd.func3, Tryd.ntmps3
  go_wp2_with (at_builtin; refine wpList_append_own _ rfl (.tmp 14) (.tmp 16) _ rfl (w.heap.size + 1) 33 i0 _ 2 16 Tryd.underlying22 hi hz0 hz1 hz2 rfl (by decide) (.slice (some ⟨w.heap.size + 1, 0, none⟩) 0 0) 0 [] rfl hmade ad 0 c (cellsOf z (0 * 2)) rfl (cellsOf_len _ _) hsrc (cellsOf_one _ _) (by unfold maxLen; omega) (by omega) (by simp) ?_; intro v1 w1 hown1 hg1 hat1; have hown : w1.ownsRow (w.heap.size + 1) 33 2 v1 0 (cellsOf z (0 * 2)) := (by simpa using hown1); have HB01 : Below (w.heap.size + 1) ((w.alloc (.cells #[.slice (some ad) 0 c, .int .i64 x] 24)).alloc (.cells #[] 33)) w1 := (Below.refl _ _).grown hg1 (by simp) (fun k hk => (by simp [Value.ownBlock] at hk; omega)); obtain ⟨A1, c1, rfl, hp1, hnl, hrow⟩ := own_flat3 hown HF.out.bd; have T1 := B0.below0 HB01 (by omega); obtain ⟨x0, x1, xf0, xf1, xl⟩ := T1; clear hown hown1 hg1 hat1)
  have T1 : Tb w1 w.heap.size (.slice (some ad) 0 c) x := ⟨x0, x1, xf0, xf1, xl⟩
  have HB1 : Below w.heap.size w w1 := HB0.trans (HB01.mono (by omega))
  have HS1 : w.heap.size + 1 < w1.heap.size := by have := HB01.size; simp [World.size_alloc] at this; omega
  clear hsrc HB0 hmade HB01 B0 x0 x1 xf0 xf1 xl
  refine (leap_of_no A1 0 c1 x z w1 hp1 (by omega) (fun h => ⟨rfl, (hnl h).2⟩) HT.out).mono ?_; rintro e w2 ⟨rfl, hb2⟩
  have HB2 := HB1.trans (hb2.mono HB1.size)
  have T2 := T1.below hb2
  have hp1' := hp1.below hb2
  have hs2 := hb2.size
  have HW2 : Below w2.heap.size w2 (w2.alloc (.cells #[.slice none 0 0, .int .i64 0] 24)) := by (repeat' (first | (with_reducible exact Below.refl _ _) | (with_reducible assumption) | (with_reducible refine Below.trans ?_ (Below.mono (by with_reducible assumption) ?_)) | (with_reducible refine Below.alloc ?_ ?_ _) | (with_reducible refine Below.setCell ?_ ?_ _) | (with_reducible refine below_drewN ?_ _) | (with_reducible refine Below.drew ?_) | go_size))
  have XA : Tb (w2.alloc (.cells #[.slice none 0 0, .int .i64 0] 24)) w2.heap.size (.slice none 0 0) 0 := ⟨by simp [go_sem], by simp [go_sem], by simp [go_sem], by simp [go_sem], by simp⟩
  have T3 := T2.below HW2
  have hp1'' := hp1'.below HW2
  have HB3 := HB2.trans (HW2.mono HB2.size)
  obtain ⟨y0, y1, yf0, yf1, yl⟩ := T3
  clear hb2 T1 T2 hp1 hp1' HW2 HB1 HB2
  go_wp2_with fail
  have T3 : Tb (w2.alloc (.cells #[.slice none 0 0, .int .i64 0] 24)) w.heap.size (.slice (some ad) 0 c) x := ⟨y0, y1, yf0, yf1, yl⟩
  clear y0 y1 yf0 yf1 yl
  refine (ref3_of_no_some ad 0 c x z _ (HF.out.below HB3) (by omega) HT.out).mono ?_; rintro e w3 ⟨rfl, hb3⟩
  have HB4 := HB3.trans (hb3.mono HB3.size)
  have T4 := T3.below hb3
  have XA3 := XA.below hb3
  have hq1 := hp1''.below hb3
  have hs3 := hb3.size
  (simp only [World.size_alloc] at hs3)
  have HW3 : Below w3.heap.size w3 (w3.alloc (.cells #[.slice none 0 0, .int .i64 0] 24)) := by (repeat' (first | (with_reducible exact Below.refl _ _) | (with_reducible assumption) | (with_reducible refine Below.trans ?_ (Below.mono (by with_reducible assumption) ?_)) | (with_reducible refine Below.alloc ?_ ?_ _) | (with_reducible refine Below.setCell ?_ ?_ _) | (with_reducible refine below_drewN ?_ _) | (with_reducible refine Below.drew ?_) | go_size))
  have XB : Tb (w3.alloc (.cells #[.slice none 0 0, .int .i64 0] 24)) w3.heap.size (.slice none 0 0) 0 := ⟨by simp [go_sem], by simp [go_sem], by simp [go_sem], by simp [go_sem], by simp⟩
  have T5 := T4.below HW3
  have XA4 := XA3.below HW3
  have hq2 := hq1.below HW3
  have HB5 := HB4.trans (HW3.mono HB4.size)
  clear T3 T4 XA XA3 hp1'' hq1 HW3 HB3 HB4 hb3
  have hVs : (w3.alloc (.cells #[.slice none 0 0, .int .i64 0] 24)).heap.size = w3.heap.size + 1 := by simp [World.size_alloc]
  have HVS := Lib.hid hVs
  obtain ⟨y0, y1, yf0, yf1, yl⟩ := T5
  clear hVs
  go_wp2_with fail
  refine (tables_same A1 (some ad) 0 c1 c 0 z _ hq2 (HF.out.below HB5) (by omega)).mono ?_; rintro e w6 ⟨rfl, hb6⟩
  have HB6 := HB5.trans (hb6.mono HB5.size)
  have T6 : Tb w6 w.heap.size (.slice (some ad) 0 c) x := Tb.below ⟨y0, y1, yf0, yf1, yl⟩ hb6
  have XA6 := XA4.below hb6
  have XB6 := XB.below hb6
  have hs6 := hb6.size
  obtain ⟨q0, q1, qf0, qf1, ql⟩ := T6
  clear hb6 HB5 XA4 XB hq2 y0 y1 yf0 yf1 yl
  go_wp2_with fail
  refine (leap_is_no (some ad) 0 c x z _ (HF.out.below HB6) (by unfold maxLen; omega) HT.out).mono ?_; rintro e w7 ⟨rfl, hb7⟩
  have HB7 := HB6.trans (hb7.mono HB6.size)
  have XA7 := XA6.below hb7
  have XB7 := XB6.below hb7
  have hs7 := hb7.size
  have hz7 : w3.heap.size < w7.heap.size := by have := HVS.out; omega
  clear hb7 HB6 XA6 XB6 q0 q1 qf0 qf1 ql
  go_wp2
  refine wp_loop_rounds 1 ?_
  rw [rounds_succ]
  have XAZ := XA7
  have XBZ := XB7
  have HBZ := HB7
  obtain ⟨p0, p1, pf0, pf1, pl⟩ := XAZ
  obtain ⟨r0, r1, rf0, rf1, rl⟩ := XBZ
  go_wp2_with fail
  refine (tables_same none none 0 0 0 0 z w7 (FlatAt.empty _ _ _ _) (FlatAt.empty _ _ _ _) (by omega)).mono ?_; rintro e w8 ⟨rfl, hb8⟩
  have HB8 := HBZ.trans (hb8.mono HBZ.size)
  go_wp2_with fail
  refine (known3 _ (HM.out.below HB8)).mono ?_; rintro e w9 ⟨rfl, hb9⟩
  have HB9 := HB8.trans (hb9.mono HB8.size)
  clear hb8 hb9
  go_wp2
  go_ret
  exact ⟨rfl, HB9⟩
set_option maxRecDepth 100000 in
set_option maxHeartbeats 4000000 in
theorem of_nil (x : Int) (z : Nat → Int) (w : World) (hm : Mx w) :
    Calls Tryd.prog 3 #[.agg #[.slice none 0 0, .int .i64 x]] w fun e w' => e = .returned (.bool true) ∧ Below w.heap.size w w' := by
  obtain ⟨i0, hi, hz0, hz1, hz2⟩ := info_parts leap_info
  have ht : ¬ IsTab z 0 x := fun h => by have := h.1; omega
  have hz : FlatAt w none 2 0 z := FlatAt.empty _ _ _ _
  have HB0 : Below w.heap.size w ((w.alloc (.cells #[.slice none 0 0, .int .i64 x] 24)).alloc (.cells #[] 33)) := by (repeat' (first | (with_reducible exact Below.refl _ _) | (with_reducible assumption) | (with_reducible refine Below.trans ?_ (Below.mono (by with_reducible assumption) ?_)) | (with_reducible refine Below.alloc ?_ ?_ _) | (with_reducible refine Below.setCell ?_ ?_ _) | (with_reducible refine below_drewN ?_ _) | (with_reducible refine Below.drew ?_) | go_size))
  have B0 : Tb ((w.alloc (.cells #[.slice none 0 0, .int .i64 x] 24)).alloc (.cells #[] 33)) w.heap.size (.slice none 0 0) x := ⟨by simp [go_sem], by simp [go_sem], by simp [go_sem], by simp [go_sem], by simp [World.size_alloc]; try omega⟩
  have hmade : ((w.alloc (.cells #[.slice none 0 0, .int .i64 x] 24)).alloc (.cells #[] 33)).ownsRow (w.heap.size + 1) 33 2 (.slice (some ⟨w.heap.size + 1, 0, none⟩) 0 0) 0 [] := by
    have := World.ownsRow_made (base := w.heap.size + 1) (e := 33) (size := 2) (w.alloc (.cells #[.slice none 0 0, .int .i64 x] 24)) #[] 0 (by simp) (Nat.zero_le _) rfl
    simpa using this
  have HM := Lib.hid hm
  have HT := Lib.hid ht
  have HF := Lib.hid hz
  obtain ⟨x0, x1, xf0, xf1, xl⟩ := B0
  clear hz ht hm
  go_enter Tryd.func3, Tryd.ntmps3
  go_wp2_with (at_builtin; refine wpList_append_own_none rfl (.tmp 14) (.tmp 16) _ rfl (w.heap.size + 1) 33 i0 2 Tryd.underlying22 hi (.slice (some ⟨w.heap.size + 1, 0, none⟩) 0 0) 0 [] rfl hmade rfl ?_)
  have T1 : Tb ((w.alloc (.cells #[.slice none 0 0, .int .i64 x] 24)).alloc (.cells #[] 33)) w.heap.size (.slice none 0 0) x := ⟨x0, x1, xf0, xf1, xl⟩
  have HS1 : w.heap.size + 1 < ((w.alloc (.cells #[.slice none 0 0, .int .i64 x] 24)).alloc (.cells #[] 33)).heap.size := by simp [World.size_alloc]
  generalize ((w.alloc (.cells #[.slice none 0 0, .int .i64 x] 24)).alloc (.cells #[] 33)) = w1 at *
  have HB1 := HB0
  have hp1 : FlatAt w1 (some ⟨w.heap.size + 1, 0, none⟩) 2 0 z := FlatAt.empty _ _ _ _
  clear hmade HB0 x0 x1 xf0 xf1 xl
  refine (leap_of_no (some ⟨w.heap.size + 1, 0, none⟩) 0 0 x z w1 hp1 (by omega) (fun h => by cases h) HT.out).mono ?_; rintro e w2 ⟨rfl, hb2⟩
  have HB2 := HB1.trans (hb2.mono HB1.size)
  have T2 := T1.below hb2
  have hp1' := hp1.below hb2
  have hs2 := hb2.size
  have HW2 : Below w2.heap.size w2 (w2.alloc (.cells #[.slice none 0 0, .int .i64 0] 24)) := by (repeat' (first | (with_reducible exact Below.refl _ _) | (with_reducible assumption) | (with_reducible refine Below.trans ?_ (Below.mono (by with_reducible assumption) ?_)) | (with_reducible refine Below.alloc ?_ ?_ _) | (with_reducible refine Below.setCell ?_ ?_ _) | (with_reducible refine below_drewN ?_ _) | (with_reducible refine Below.drew ?_) | go_size))
  have XA : Tb (w2.alloc (.cells #[.slice none 0 0, .int .i64 0] 24)) w2.heap.size (.slice none 0 0) 0 := ⟨by simp [go_sem], by simp [go_sem], by simp [go_sem], by simp [go_sem], by simp⟩
  have T3 := T2.below HW2
  have hp1'' := hp1'.below HW2
  have HB3 := HB2.trans (HW2.mono HB2.size)
  obtain ⟨y0, y1, yf0, yf1, yl⟩ := T3
  clear hb2 T1 T2 hp1 hp1' HW2 HB1 HB2
  go_wp2_with fail
  have T3 : Tb (w2.alloc (.cells #[.slice none 0 0, .int .i64 0] 24)) w.heap.size (.slice none 0 0) x := ⟨y0, y1, yf0, yf1, yl⟩
  clear y0 y1 yf0 yf1 yl
  refine (ref3_of_no_none x z _).mono ?_; rintro e w3 ⟨rfl, hb3⟩
  have HB4 := HB3.trans (hb3.mono HB3.size)
  have T4 := T3.below hb3
  have XA3 := XA.below hb3
  have hq1 := hp1''.below hb3
  have hs3 := hb3.size
  (simp only [World.size_alloc] at hs3)
  have HW3 : Below w3.heap.size w3 (w3.alloc (.cells #[.slice none 0 0, .int .i64 0] 24)) := by (repeat' (first | (with_reducible exact Below.refl _ _) | (with_reducible assumption) | (with_reducible refine Below.trans ?_ (Below.mono (by with_reducible assumption) ?_)) | (with_reducible refine Below.alloc ?_ ?_ _) | (with_reducible refine Below.setCell ?_ ?_ _) | (with_reducible refine below_drewN ?_ _) | (with_reducible refine Below.drew ?_) | go_size))
  have XB : Tb (w3.alloc (.cells #[.slice none 0 0, .int .i64 0] 24)) w3.heap.size (.slice none 0 0) 0 := ⟨by simp [go_sem], by simp [go_sem], by simp [go_sem], by simp [go_sem], by simp⟩
  have T5 := T4.below HW3
  have XA4 := XA3.below HW3
  have hq2 := hq1.below HW3
  have HB5 := HB4.trans (HW3.mono HB4.size)
  clear T3 T4 XA XA3 hp1'' hq1 HW3 HB3 HB4 hb3
  have hVs : (w3.alloc (.cells #[.slice none 0 0, .int .i64 0] 24)).heap.size = w3.heap.size + 1 := by simp [World.size_alloc]
  have HVS := Lib.hid hVs
  obtain ⟨y0, y1, yf0, yf1, yl⟩ := T5
  clear hVs
  go_wp2_with fail
  refine (tables_same (some ⟨w.heap.size + 1, 0, none⟩) none 0 0 0 0 z _ hq2 (HF.out.below HB5) (by omega)).mono ?_; rintro e w6 ⟨rfl, hb6⟩
  have HB6 := HB5.trans (hb6.mono HB5.size)
  have T6 : Tb w6 w.heap.size (.slice none 0 0) x := Tb.below ⟨y0, y1, yf0, yf1, yl⟩ hb6
  have XA6 := XA4.below hb6
  have XB6 := XB.below hb6
  have hs6 := hb6.size
  obtain ⟨q0, q1, qf0, qf1, ql⟩ := T6
  clear hb6 HB5 XA4 XB hq2 y0 y1 yf0 yf1 yl
  go_wp2_with fail
  refine (leap_is_no none 0 0 x z _ (HF.out.below HB6) (by unfold maxLen; omega) HT.out).mono ?_; rintro e w7 ⟨rfl, hb7⟩
  have HB7 := HB6.trans (hb7.mono HB6.size)
  have XA7 := XA6.below hb7
  have XB7 := XB6.below hb7
  have hs7 := hb7.size
  have hz7 : w3.heap.size < w7.heap.size := by have := HVS.out; omega
  clear hb7 HB6 XA6 XB6 q0 q1 qf0 qf1 ql
  go_wp2
  refine wp_loop_rounds 1 ?_
  rw [rounds_succ]
  have XAZ := XA7
  have XBZ := XB7
  have HBZ := HB7
  obtain ⟨p0, p1, pf0, pf1, pl⟩ := XAZ
  obtain ⟨r0, r1, rf0, rf1, rl⟩ := XBZ
  go_wp2_with fail
  refine (tables_same none none 0 0 0 0 z w7 (FlatAt.empty _ _ _ _) (FlatAt.empty _ _ _ _) (by omega)).mono ?_; rintro e w8 ⟨rfl, hb8⟩
  have HB8 := HBZ.trans (hb8.mono HBZ.size)
  go_wp2_with fail
  refine (known3 _ (HM.out.below HB8)).mono ?_; rintro e w9 ⟨rfl, hb9⟩
  have HB9 := HB8.trans (hb9.mono HB8.size)
  clear hb8 hb9
  go_wp2
  go_ret
  exact ⟨rfl, HB9⟩

set_option maxRecDepth 100000 in
theorem leapOf_contract (H : Type) (enc : TypeId × Value → H) (W : World) (base : Nat) (args : Array Value) (ds gs : List (DataW H)) (before : List MemPlace)
    (hval0 : ∀ (j : Nat) t v, Tryd.f3.params[j]? = some t → args[j]? = some v → Value.okWide Tryd.prog W .any base t v)
    (hW : DataW.Whole enc Tryd.prog Tryd.f3.params.toList Rows.leapOfSpec.vars false W args.toList ds gs before)
    (hsz0 : (DataW.weightsEach Tryd.prog (Tryd.f3.params.toList ++ (OpenSpec.ofChange Rows.leapOfSpec).bare.plain.varTypes Tryd.prog) (ds ++ gs)).all (· ≤ reachBytes) = true) (hL : laidMetH Tryd.prog Rows.leapOfRow.laid W) (hS : W.ShapedOpen Tryd.prog) :
    Calls Tryd.prog 3 args W fun e W' => ∃ v, e = .returned v ∧ Rows.leapOfSpec.post enc Tryd.prog Tryd.f3 false true false false W args v W' := by
  have hval : ∀ (j : Nat) t v, Tryd.f3.params[j]? = some t → args[j]? = some v → Value.okWide Tryd.prog W .any base t v := hval0
  have hsz := hsz0
  have hW' := hW
  obtain ⟨p, q, hA0, hV, rfl, hfz, hnd⟩ := hW
  have hA : DataW.TrodAll enc Tryd.prog W 0 (fun _ => true) true Tryd.f3.params.toList args.toList ds p := hA0
  rw [Tryd.params3] at hA hval hsz
  have hsame : (Rows.leapOfSpec.fn H (ds ++ gs)).results = [.lit (.bool true)] ∧ (Rows.leapOfSpec.fn H (ds ++ gs)).args = ds ∧ (Rows.leapOfSpec.fn H (ds ++ gs)).vars = [] → ∀ W', Below W.heap.size W W' → Rows.leapOfSpec.post enc Tryd.prog Tryd.f3 false true false false W args (.bool true) W' :=
    fun h W' hb => law_post (tb := 4) hW' law_laid (by kernel_rfl) rfl Tryd.underlying4 h.1 h.2.1 rfl h.2.2 hb
  obtain ⟨v0, vs0, d0, ds0, p0, q0, hargs, rfl, rfl, h0, r0⟩ := trodAll_cons hA
  obtain ⟨rfl, rfl, rfl⟩ := trodAll_nil r0
  obtain rfl : args = #[v0] := by cases args; simp_all
  obtain ⟨rfl, rfl⟩ := trodVars_none hV
  have hpost := hsame ⟨rfl, rfl, rfl⟩
  clear hsame hA0 hval0 hsz0
  obtain ⟨A, n, c, z, x, rfl, hn, hz, _, hnil⟩ := open_table' (hval 0 24 v0 rfl rfl) h0
  have hm := mx_of_shaped hS
  by_cases h : 300 < n
  · exact (of_out A n c x W h).mono fun e W' ⟨he, hb⟩ => ⟨_, he, hpost W' hb⟩
  · cases A with
    | none =>
      obtain ⟨rfl, rfl⟩ := hnil rfl
      exact (of_nil x z W hm).mono fun e W' ⟨he, hb⟩ => ⟨_, he, hpost W' hb⟩
    | some ad =>
      by_cases h0 : n = 0
      · subst h0
        exact (of_empty ad c x z W hm).mono fun e W' ⟨he, hb⟩ => ⟨_, he, hpost W' hb⟩
      · by_cases ht : IsTab z n x
        · exact (of_yes ad n c x z W hm hz (by omega) (by omega) ht).mono fun e W' ⟨he, hb⟩ => ⟨_, he, hpost W' hb⟩
        · exact (of_no ad n c x z W hm hz (by omega) (by omega) ht).mono fun e W' ⟨he, hb⟩ => ⟨_, he, hpost W' hb⟩
theorem leapOf_reads (os : Os) {H : Type} (enc : TypeId × Value → H) : (DataW.whole enc Tryd.prog ((layW os).forCall (fun _ _ => 0) ⟨#[], #[.agg #[.slice none 0 0, .int .i64 0]], []⟩).memory Tryd.f3.params.toList Rows.leapOfSpec.vars false #[.agg #[.slice none 0 0, .int .i64 0]].toList 8).isSome = true := by kernel_rfl
theorem leapOf_met (os : Os) : laidMet Tryd.prog Rows.leapOfRow.laid ((layW os).forCall (fun _ _ => 0) ⟨#[], #[.agg #[.slice none 0 0, .int .i64 0]], []⟩).memory := laidMet_of_run' 8 (by kernel_rfl) (by kernel_rfl)
set_option maxRecDepth 100000 in
theorem leapOf_lifted (os : Os) (started : os.Started) (H : Type) (enc : TypeId × Value → H) (F : Stop.Interp) :
    ReturnsInHanded {} Tryd.checked os 3 .any ((OpenSpec.ofChange Rows.leapOfSpec).preRow enc Tryd.prog Tryd.f3 Rows.leapOfRow.domain false Rows.leapOfRow.laid) (((OpenSpec.ofChange Rows.leapOfSpec).at F).post enc Tryd.prog Tryd.f3 false true false false) := by
  obtain ⟨x, hx⟩ := Option.isSome_iff_exists.1 (leapOf_reads os enc)
  refine returnsInHanded_of_row (C := Tryd.checked) (s := OpenSpec.ofChange Rows.leapOfSpec) law_own started (by kernel_rfl) Tryd.func3
    (witness_row_at (enc := enc) (C := Tryd.checked) false (layW os) #[.agg #[.slice none 0 0, .int .i64 0]] rfl (by kernel_rfl) (by kernel_rfl) (by kernel_rfl)
      (OpenSpec.preRow_of_cond 8 hx (by rfl) (fun k hk => by cases hk) (by kernel_rfl) (leapOf_met os))) ?_
  intro W base args ds gs before hval hW _ _ hsz hL hS _
  exact leapOf_contract H enc W base args ds gs before hval hW hsz hL hS
theorem leapOf_said : Rows.LeapOfSaid :=
  OpenClaim.holds_of_cond 3 Tryd.f3 rfl rfl rfl rfl rfl rfl rfl ⟨rfl, rfl, rfl, rfl, rfl⟩ rfl rfl rfl rfl rfl (by kernel_rfl) Tryd.func3 (by kernel_rfl)
    (of_decide_eq_true (by kernel_rfl)) (by unfold Func.isWrapper; first | (rw [if_pos (by decide +kernel)]; kernel_rfl) | (rw [if_neg (by decide +kernel)]; exact ⟨rfl, rfl⟩))
    (fun os started H enc _ F => by rw [OpenClaim.pre_eq_preRow]; exact leapOf_lifted os started H enc F)
theorem leapOf_holds : Rows.LeapOfCardSaid :=
  Claim7.holds_tied_plain_at .later [] _ _ _ _ leapOf_said (fun _ h => by cases h) (by kernel_rfl) (fun _ h => by cases h) leapOf_row_tie rfl ⟨rfl, rfl⟩ (by kernel_rfl) rfl (plain_of (f0 := 3) (fn0 := Tryd.f3) (by kernel_rfl) Tryd.func3 (by kernel_rfl) (by kernel_rfl)) (by kernel_rfl)
end Go.Proofs.YtonleiffbfdikaaDoor
