/- Stage 10: HlcPlays (written by gen/s10r.py). -/
import Derived.Test.YtmbopdabbegbiaaRef10Hear
import Derived.BigGuard
import Derived.BigGuardPart
import Derived.BigCall
set_option linter.unusedSimpArgs false
set_option linter.unusedVariables false
namespace Go.Proofs.Ytmbopdabbegbiaa
open Go.ChangeShapes Go.WideShapes Go.ChangeAt Go.RowKit Go.Joins

theorem send_stamp {m c bd t : Int} (h : isStampB m c = true) (h0 : sdE m c bd t = 0) : isStampB (sdM m c bd t) (sdC m c bd t) = true := by
  have hb := stamp_bd h
  cases hn : isMilliB t
  · unfold sdE at h0
    rw [if_pos hn] at h0
    omega
  · have hn' : 0 ≤ t ∧ t ≤ 281474976710655 := by simpa [isMilliB] using hn
    have g0 : ¬ isMilliB t = false := by rw [hn]; decide
    unfold sdE at h0
    rw [if_neg g0] at h0
    unfold sdM sdC isStampB isMilliB
    by_cases ht : t ≤ m
    · rw [if_pos ht] at h0 ⊢
      rw [if_pos ht]
      by_cases hc : c = 65535
      · rw [if_pos hc] at h0; omega
      · simp; omega
    · rw [if_neg ht, if_neg ht]
      simp; omega
/-- Send by both clocks. -/
theorem send_both (m c bd t : Int) (hs : isStampB m c = true) : ∃ r v1 v2 m' c' : Int, isStampB m' c' = true ∧
    (∀ (b : Nat) (w : World), Ints3 w b m c bd → Calls Try.prog 17 #[.pointer (some ⟨b, 0, none⟩), .int .i64 t] w fun e w' => e = .returned (.tuple #[.agg #[.int .i64 v1, .int .i64 v2], .int .i64 r]) ∧ Only b w w' ∧ Ints3 w' b m' c' bd) ∧
    (∀ (b : Nat) (w : World), Ints3 w b m c bd → Calls Try.prog 18 #[.pointer (some ⟨b, 0, none⟩), .int .i64 t] w fun e w' => e = .returned (.tuple #[.agg #[.int .i64 v1, .int .i64 v2], .int .i64 r]) ∧ Only b w w' ∧ Ints3 w' b m' c' bd) := by
  by_cases h0 : sdE m c bd t = 0
  · refine ⟨0, sdM m c bd t, sdC m c bd t, sdM m c bd t, sdC m c bd t, send_stamp hs h0, fun b w K => (hlc_send b m c bd t w K hs).mono ?_, fun b w K => (ref10_send b m c bd t w K hs).mono ?_⟩
    all_goals
      rintro e w' (⟨h, _⟩ | ⟨_, h⟩)
      · exact absurd h0 h
      · exact h
  · refine ⟨sdE m c bd t, 0, 0, m, c, hs, fun b w K => (hlc_send b m c bd t w K hs).mono ?_, fun b w K => (ref10_send b m c bd t w K hs).mono ?_⟩
    all_goals
      rintro e w' (⟨_, h⟩ | ⟨h, _⟩)
      · exact h
      · exact absurd h h0
theorem raise_both (m c bd t : Int) (hb : 0 ≤ bd) : ∃ r bd' : Int, 0 ≤ bd' ∧
    (∀ (b : Nat) (w : World), Ints3 w b m c bd → Calls Try.prog 21 #[.pointer (some ⟨b, 0, none⟩), .int .i64 t] w fun e w' => e = .returned (.int .i64 r) ∧ Only b w w' ∧ Ints3 w' b m c bd') ∧
    (∀ (b : Nat) (w : World), Ints3 w b m c bd → Calls Try.prog 22 #[.pointer (some ⟨b, 0, none⟩), .int .i64 t] w fun e w' => e = .returned (.int .i64 r) ∧ Only b w w' ∧ Ints3 w' b m c bd') :=
  ⟨rsE bd t, rsB bd t, by unfold rsB; split <;> omega, fun b w K => hlc_raise b m c bd t w K, fun b w K => ref10_raise b m c bd t w K hb⟩
/-- Hear of n stamps by both clocks. -/
theorem hear_both (m c bd t : Int) (n : Nat) (z : Nat → Int) (hn0 : 0 < n) (hn : n ≤ 1000) (hs : isStampB m c = true) : ∃ r m' c' : Int, isStampB m' c' = true ∧
    (∀ (b B k : Nat) (w : World), Ints3 w b m c bd → FlatAt w (some ⟨B, 0, none⟩) 2 n z → B ≠ b → Calls Try.prog 19 #[.pointer (some ⟨b, 0, none⟩), .int .i64 t, .slice (some ⟨B, 0, none⟩) n k] w fun e w' => e = .returned (.int .i64 r) ∧ Only b w w' ∧ Ints3 w' b m' c' bd) ∧
    (∀ (b B k : Nat) (w : World), Ints3 w b m c bd → FlatAt w (some ⟨B, 0, none⟩) 2 n z → Calls Try.prog 20 #[.pointer (some ⟨b, 0, none⟩), .int .i64 t, .slice (some ⟨B, 0, none⟩) n k] w fun e w' => e = .returned (.int .i64 r) ∧ Only b w w' ∧ Ints3 w' b m' c' bd) := by
  cases ht : isMilliB t
  · refine ⟨1, m, c, hs, fun b B k w K hz hB => (hlc_hear_arg b t _ w ht).mono ?_, fun b B k w K hz => (ref10_hear_arg b t _ w ht).mono ?_⟩
    all_goals
      rintro e w' ⟨rfl, rfl⟩
      exact ⟨rfl, Only.refl _ _, K⟩
  · by_cases hb : badL (fun j => z (j * 2)) (fun j => z (j * 2 + 1)) n
    · refine ⟨1, m, c, hs, fun b B k w K hz hB => (hlc_hear_bad b _ n k t _ _ w hz.pairs ht (by omega) hb).mono ?_, fun b B k w K hz => (ref10_hear_bad b _ n k t _ _ w hz.pairs ht (by omega) hb).mono ?_⟩
      all_goals
        rintro e w' ⟨rfl, h⟩
        exact ⟨rfl, Only.of_below h, K.below h K.lt⟩
    · by_cases hf : farL t (fun j => z (j * 2)) n
      · refine ⟨16, m, c, hs, fun b B k w K hz hB => (hlc_hear_ok b _ n k m c bd t _ _ w K hz.pairs (fun B' O' h => by injection h with h; injection h with h; omega) ht (by omega) hb).mono ?_, fun b B k w K hz => (ref10_hear_ok b _ n k m c bd t z w K hz (fun h => by cases h) ht hn hb).mono ?_⟩
        all_goals
          rintro e w' (⟨_, rfl, h⟩ | ⟨h, _⟩)
          · exact ⟨rfl, Only.of_below h, K.below h K.lt⟩
          · exact absurd hf h
      · refine ⟨0, _, _, hr_stamp hs hb n (Nat.le_refl _), fun b B k w K hz hB => (hlc_hear_ok b _ n k m c bd t _ _ w K hz.pairs (fun B' O' h => by injection h with h; injection h with h; omega) ht (by omega) hb).mono ?_, fun b B k w K hz => (ref10_hear_ok b _ n k m c bd t z w K hz (fun h => by cases h) ht hn hb).mono ?_⟩
        all_goals
          rintro e w' (⟨h, _⟩ | ⟨_, h⟩)
          · exact absurd h hf
          · exact h
def z2 (x y : Int) : Nat → Int := fun j => if j = 0 then x else y
def z4 (x y x' y' : Int) : Nat → Int := fun j => if j = 0 then x else if j = 1 then y else if j = 2 then x' else y'
theorem flat1 {w : World} {B : Nat} {x y : Int} (h0 : w.cell? ⟨B, 0, none⟩ = some (.int .i64 x)) (h1 : w.cell? ⟨B, 1, none⟩ = some (.int .i64 y)) (hx : -9223372036854775808 ≤ x ∧ x ≤ 9223372036854775807) (hy : -9223372036854775808 ≤ y ∧ y ≤ 9223372036854775807) (hB : B < w.heap.size) : FlatAt w (some ⟨B, 0, none⟩) 2 1 (z2 x y) := by
  intro _
  refine ⟨B, 0, rfl, hB, fun j hj => ?_⟩
  rcases (show j = 0 ∨ j = 1 from by omega) with rfl | rfl
  · exact ⟨h0, hx⟩
  · exact ⟨h1, hy⟩
theorem flat2 {w : World} {B : Nat} {x y x' y' : Int} (h0 : w.cell? ⟨B, 0, none⟩ = some (.int .i64 x)) (h1 : w.cell? ⟨B, 1, none⟩ = some (.int .i64 y)) (h2 : w.cell? ⟨B, 2, none⟩ = some (.int .i64 x')) (h3 : w.cell? ⟨B, 3, none⟩ = some (.int .i64 y')) (hx : -9223372036854775808 ≤ x ∧ x ≤ 9223372036854775807) (hy : -9223372036854775808 ≤ y ∧ y ≤ 9223372036854775807) (hx' : -9223372036854775808 ≤ x' ∧ x' ≤ 9223372036854775807) (hy' : -9223372036854775808 ≤ y' ∧ y' ≤ 9223372036854775807) (hB : B < w.heap.size) : FlatAt w (some ⟨B, 0, none⟩) 2 2 (z4 x y x' y') := by
  intro _
  refine ⟨B, 0, rfl, hB, fun j hj => ?_⟩
  rcases (show j = 0 ∨ j = 1 ∨ j = 2 ∨ j = 3 from by omega) with rfl | rfl | rfl | rfl
  · exact ⟨h0, hx⟩
  · exact ⟨h1, hy⟩
  · exact ⟨h2, hx'⟩
  · exact ⟨h3, hy'⟩
theorem new_cell (v : World) {b : Nat} (h : v.heap.size = b) (cs : Array Value) (t : TypeId) (j : Nat) : (v.alloc (.cells cs t)).cell? ⟨b, j, none⟩ = cs[j]? := by
  subst h
  exact cell_of_row _ _ _ cs t (0, 0) (heap_alloc_new v _)
theorem FlatAt.alloc {w : World} {A : Option Addr} {m n : Nat} {z : Nat → Int} (h : FlatAt w A m n z) (o : Obj) : FlatAt (w.alloc o) A m n z := h.below ((Below.refl _ _).alloc (Nat.le_refl _) o)
theorem FlatAt.only {w w' : World} {B m n b : Nat} {z : Nat → Int} (h : FlatAt w (some ⟨B, 0, none⟩) m n z) (k : Only b w w') (hb : B ≠ b) : FlatAt w' (some ⟨B, 0, none⟩) m n z := by
  intro h0
  obtain ⟨B', O', he, hB, hc⟩ := h h0
  injection he with he
  injection he with he1 he2
  subst he1
  exact ⟨B, O', by rw [he2], Nat.lt_of_lt_of_le hB k.size, fun j hj => ⟨(k.cell B _ hB hb).trans (hc j hj).1, (hc j hj).2⟩⟩
set_option maxHeartbeats 1000000 in
theorem hlcPlays_out (i : Int) (A : Option Addr) (L c : Nat) (w : World) (h : isMilliB i = false) :
    Calls Try.prog 3 #[.int .i64 i, .slice A L c] w fun e w' => e = .returned (.bool true) ∧ Below w.heap.size w w' := by
  have HV := Lib.hid fun W : World => hlc_new_no i W h
  have HR := Lib.hid fun W : World => ref10_new_no i W h
  clear h
  go_enter Try.func3, Try.ntmps3
  go_wp2_with fail
  refine (HV.out _).mono ?_; rintro e w' ⟨rfl, rfl⟩
  go_wp2_with fail
  refine (HR.out _).mono ?_; rintro e w' ⟨rfl, rfl⟩
  go_wp2_with (go_at_call 16; refine (known10 _).mono ?_; rintro e w5 ⟨rfl, hb5⟩; obtain ⟨hc5, hf5⟩ := bcell hb5; have hz5 := hb5.size; (try simp only [World.size_alloc, World.size_setCell, World.heap_drewN] at hb5 hc5 hf5 hz5); (try have ha05 : w.heap.size < w5.heap.size := by omega); (try have ha15 : w.heap.size + 1 < w5.heap.size := by omega); (try have ha25 : w.heap.size + 2 < w5.heap.size := by omega); (try have hal5 : w.heap.size ≤ w5.heap.size := by omega); (try have ham5 : w.heap.size < w5.heap.size + 2 := by omega))
  go_ret
  go_light
  exact ⟨rfl, by (repeat' (first | (with_reducible exact Below.refl _ _) | (with_reducible assumption) | (with_reducible refine Below.trans ?_ (Below.mono (by with_reducible assumption) ?_)) | (with_reducible refine Below.alloc ?_ ?_ _) | (with_reducible refine Below.setCell ?_ ?_ _) | (with_reducible refine below_drewN ?_ _) | (with_reducible refine Below.drew ?_) | go_size))⟩
set_option maxRecDepth 100000 in
set_option maxHeartbeats 16000000 in
theorem hlcPlays_in (i : Int) (A : Option Addr) (L c0' : Nat) (z : Nat → Int) (w : World) (hz : FlatAt w A 6 L z) (h : isMilliB i = true) :
    Calls Try.prog 3 #[.int .i64 i, .slice A L c0'] w fun e w' => e = .returned (.bool true) ∧ Below w.heap.size w w' := by
  have HZ := Lib.hid hz
  have HV := Lib.hid fun W : World => hlc_new_ok i W h
  have HR := Lib.hid fun W : World => ref10_new_ok i W h
  have hi : 0 ≤ i ∧ i ≤ 281474976710655 := by simpa [isMilliB] using h
  have hst : isStampB i 0 = true := by simp [isStampB, isMilliB]; omega
  have HI := Lib.hid (And.intro hi hst)
  clear hz h hi hst
  go_enter Try.func3, Try.ntmps3
  go_wp2_with fail
  refine (HV.out _).mono ?_; rintro e w' ⟨rfl, rfl⟩
  go_wp2_with fail
  refine (HR.out _).mono ?_; rintro e w' ⟨rfl, rfl⟩
  have kv := (Ints3.new w i 0 i 73).alloc (.cells #[.int .i64 i, .int .i64 0, .int .i64 i] 45)
  have kx := Ints3.new (w.alloc (.cells #[.int .i64 i, .int .i64 0, .int .i64 i] 73)) i 0 i 45
  have hb0 : Below w.heap.size w ((w.alloc (.cells #[.int .i64 i, .int .i64 0, .int .i64 i] 73)).alloc (.cells #[.int .i64 i, .int .i64 0, .int .i64 i] 45)) := by (repeat' (first | (with_reducible exact Below.refl _ _) | (with_reducible assumption) | (with_reducible refine Below.trans ?_ (Below.mono (by with_reducible assumption) ?_)) | (with_reducible refine Below.alloc ?_ ?_ _) | (with_reducible refine Below.setCell ?_ ?_ _) | (with_reducible refine below_drewN ?_ _) | (with_reducible refine Below.drew ?_) | go_size))
  rw [World.size_alloc] at kx
  have KVS := Lib.hid kv
  have KXS := Lib.hid kx
  have HBS := Lib.hid hb0
  clear kv kx hb0
  go_wp2
  obtain ⟨cb, hcb⟩ : ∃ cb, cb = w.heap.size := ⟨_, rfl⟩
  have KVS := Lib.hid (hcb ▸ KVS.out)
  have g1 : w.heap.size ≤ cb := by omega
  have g2 : w.heap.size ≤ cb + 1 := by omega
  go_loopw [9] (fun i wr => ∃ (k : Nat) (m c bd : Int), k ≤ L ∧ k ≤ 200 ∧ i = .int .i64 k ∧ isStampB m c = true ∧ 0 ≤ bd ∧ Ints3 wr w.heap.size m c bd ∧ Ints3 wr (w.heap.size + 1) m c bd ∧ Below w.heap.size w wr) (fun i _ => L - (intOf i).toNat)
  case atStart => exact ⟨0, _, _, _, Nat.zero_le _, by omega, rfl, HI.out.2, HI.out.1.1, by rw [← hcb]; exact KVS.out, KXS.out, HBS.out⟩
  case round =>
    obtain ⟨k, m, c, bd, hk, hk2, rfl, hs, hbd, KV, KX, HB⟩ := hrel
    clear KVS KXS HBS HI hcb g1 g2
    have zr := HB.size
    by_cases hlt : k < L ∧ k < 200
    · obtain ⟨hlt, hlt2⟩ := hlt
      obtain ⟨B, O, rfl, hB, hcells⟩ := HZ.out (by omega)
      have lk : (k : Int) < (L : Int) := by omega
      have lk2 : (k : Int) < 200 := by omega
      have lk3 : decide ((k : Int) < (L : Int)) = true := by simpa using hlt
      have lk4 : decide ((k : Int) < 200) = true := by simp only [decide_eq_true_eq]; omega
      have lB : B < wr.heap.size := Nat.lt_of_lt_of_le hB zr
      have x0 : wr.cell? ⟨B, O + k * 6, none⟩ = some (.int .i64 (z (k * 6))) := (HB.cell (p := ⟨B, O + k * 6, none⟩) hB).trans (hcells (k * 6) (by omega)).1
      have x1 : wr.cell? ⟨B, O + k * 6 + 1, none⟩ = some (.int .i64 (z (k * 6 + 1))) := (HB.cell (p := ⟨B, O + (k * 6 + 1), none⟩) hB).trans (hcells (k * 6 + 1) (by omega)).1
      have x2 : wr.cell? ⟨B, O + k * 6 + 2, none⟩ = some (.int .i64 (z (k * 6 + 2))) := (HB.cell (p := ⟨B, O + (k * 6 + 2), none⟩) hB).trans (hcells (k * 6 + 2) (by omega)).1
      have x3 : wr.cell? ⟨B, O + k * 6 + 3, none⟩ = some (.int .i64 (z (k * 6 + 3))) := (HB.cell (p := ⟨B, O + (k * 6 + 3), none⟩) hB).trans (hcells (k * 6 + 3) (by omega)).1
      have x4 : wr.cell? ⟨B, O + k * 6 + 4, none⟩ = some (.int .i64 (z (k * 6 + 4))) := (HB.cell (p := ⟨B, O + (k * 6 + 4), none⟩) hB).trans (hcells (k * 6 + 4) (by omega)).1
      have x5 : wr.cell? ⟨B, O + k * 6 + 5, none⟩ = some (.int .i64 (z (k * 6 + 5))) := (HB.cell (p := ⟨B, O + (k * 6 + 5), none⟩) hB).trans (hcells (k * 6 + 5) (by omega)).1
      have bx := (hcells (k * 6 + 2) (by omega)).2
      have by' := (hcells (k * 6 + 3) (by omega)).2
      have box := (hcells (k * 6 + 4) (by omega)).2
      have boy := (hcells (k * 6 + 5) (by omega)).2
      clear hcells
      generalize z (k * 6) = kd at *
      generalize z (k * 6 + 1) = nn at *
      generalize z (k * 6 + 2) = x at *
      generalize z (k * 6 + 3) = y at *
      generalize z (k * 6 + 4) = ox at *
      generalize z (k * 6 + 5) = oy at *
      have q1 : (wr.alloc (.cells #[.int .i64 kd, .int .i64 nn, .int .i64 x, .int .i64 y, .int .i64 ox, .int .i64 oy] 34)).cell? ⟨wr.heap.size, 1, none⟩ = some (.int .i64 nn) := by simp
      have q2 : (wr.alloc (.cells #[.int .i64 kd, .int .i64 nn, .int .i64 x, .int .i64 y, .int .i64 ox, .int .i64 oy] 34)).cell? ⟨wr.heap.size, 2, none⟩ = some (.int .i64 x) := by simp
      have q3 : (wr.alloc (.cells #[.int .i64 kd, .int .i64 nn, .int .i64 x, .int .i64 y, .int .i64 ox, .int .i64 oy] 34)).cell? ⟨wr.heap.size, 3, none⟩ = some (.int .i64 y) := by simp
      have q4 : (wr.alloc (.cells #[.int .i64 kd, .int .i64 nn, .int .i64 x, .int .i64 y, .int .i64 ox, .int .i64 oy] 34)).cell? ⟨wr.heap.size, 4, none⟩ = some (.int .i64 ox) := by simp
      have q5 : (wr.alloc (.cells #[.int .i64 kd, .int .i64 nn, .int .i64 x, .int .i64 y, .int .i64 ox, .int .i64 oy] 34)).cell? ⟨wr.heap.size, 5, none⟩ = some (.int .i64 oy) := by simp
      have HKV := Lib.hid (KV.alloc (.cells #[.int .i64 kd, .int .i64 nn, .int .i64 x, .int .i64 y, .int .i64 ox, .int .i64 oy] 34))
      have HKX := Lib.hid (KX.alloc (.cells #[.int .i64 kd, .int .i64 nn, .int .i64 x, .int .i64 y, .int .i64 ox, .int .i64 oy] 34))
      have HBa := Lib.hid (HB.alloc zr (.cells #[.int .i64 kd, .int .i64 nn, .int .i64 x, .int .i64 y, .int .i64 ox, .int .i64 oy] 34))
      have lv := KV.lt
      have lx := KX.lt
      have nab : wr.heap.size ≠ w.heap.size := by omega
      have nac : wr.heap.size ≠ w.heap.size + 1 := by omega
      have la : wr.heap.size < (wr.alloc (.cells #[.int .i64 kd, .int .i64 nn, .int .i64 x, .int .i64 y, .int .i64 ox, .int .i64 oy] 34)).heap.size := by simp
      have zA : (wr.alloc (.cells #[.int .i64 kd, .int .i64 nn, .int .i64 x, .int .i64 y, .int .i64 ox, .int .i64 oy] 34)).heap.size = wr.heap.size + 1 := World.size_alloc _ _
      clear KV KX HZ
      rcases (show kd = 1 ∨ kd = 2 ∨ kd = 3 ∨ kd = 4 ∨ (kd ≠ 1 ∧ kd ≠ 2 ∧ kd ≠ 3 ∧ kd ≠ 4) from by omega) with hkd | hkd | hkd | hkd | ⟨hk1, hk3, hk4, hk5⟩
      · subst hkd
        obtain ⟨r, v1, v2, m', c', hs', S1, S2⟩ := send_both m c bd nn hs
        have hbd' := hbd
        have HS1 := Lib.hid S1
        have HS2 := Lib.hid S2
        clear S1 S2
        go_wp2_with fail
        refine (HS1.out _ _ HKV.out).mono ?_; rintro e w5 ⟨rfl, ho5, KV5⟩
        have KX5 := HKX.out.only ho5 (by omega)
        have HB5 : Below w.heap.size w w5 := HBa.out.trans (ho5.below (Nat.le_refl _) HBa.out.size)
        have c1 := (ho5.cell wr.heap.size 1 la nab).trans q1
        have z5 := ho5.size
        rw [zA] at z5
        have J5 := Ints2.new w5 v1 v2 32
        have lw5 : wr.heap.size < w5.heap.size := by omega
        have KV5' := Lib.hid (KV5.alloc (.cells #[.int .i64 v1, .int .i64 v2] 32))
        have KX5' := Lib.hid (KX5.alloc (.cells #[.int .i64 v1, .int .i64 v2] 32))
        have HJ5 := Lib.hid J5
        have HB5' := Lib.hid (HB5.alloc HB5.size (.cells #[.int .i64 v1, .int .i64 v2] 32))
        clear ho5 KV5 KX5 J5
        go_wp2_with fail
        refine (HS2.out _ _ KX5'.out).mono ?_; rintro e w6 ⟨rfl, ho6, KX6⟩
        have KV6 := KV5'.out.only ho6 (by omega)
        have J6 := HJ5.out.only ho6 (by omega)
        have HB6 : Below w.heap.size w w6 := HB5'.out.trans (ho6.below (by omega) HB5'.out.size)
        have z6 := HB6.size
        have e0 := J6.c0
        have e1 := J6.c1
        have e2 := J6.lt
        have KV9 := KV6.alloc (.cells #[.int .i64 v1, .int .i64 v2] 32)
        have KX9 := KX6.alloc (.cells #[.int .i64 v1, .int .i64 v2] 32)
        have HB9 := HB6.alloc HB6.size (.cells #[.int .i64 v1, .int .i64 v2] 32)
        clear ho6 HJ5 c1 J6
        have i0 := KX9.c0
        have i1 := KX9.c1
        have i2 := KX9.c2
        have i3 := KX9.lt
        go_wp2_with fail
        refine wp_region_held_drew (S := (fun w' => w'.cell? ⟨w.heap.size + 1, 0, none⟩ = some (.int .i64 m') ∧ w'.cell? ⟨w.heap.size + 1, 1, none⟩ = some (.int .i64 c') ∧ w'.cell? ⟨w.heap.size + 1, 2, none⟩ = some (.int .i64 bd))) (by kernel_rfl) ?_ (fun hHeld => ?_)
        · exact ⟨i0, i1, i2⟩
        refine wpAnyH_take (i := 0) (v := ?_) rfl (by kernel_rfl) (by kernel_rfl) (by kernel_rfl) (fun _ _ _ h => h) (Or.inl ⟨by rfl, ?_⟩) (by assumption) ?_
        rotate_left
        · intro w' hSw; (try dsimp only at hSw); go_simp; (try with_reducible rfl)
        (try simp only [Act.put, List.setIfInBounds_toArray, List.set_cons_zero, List.set_cons_succ, List.getElem_toArray, List.getElem_cons_succ, List.getElem_cons_zero])
        refine wpAnyH_take (i := 1) (v := ?_) rfl (by kernel_rfl) (by kernel_rfl) (by kernel_rfl) (fun _ _ _ h => h) (Or.inl ⟨by rfl, ?_⟩) (by assumption) ?_
        rotate_left
        · intro w' hSw; (try dsimp only at hSw); go_simp; (try with_reducible rfl)
        (try simp only [Act.put, List.setIfInBounds_toArray, List.set_cons_zero, List.set_cons_succ, List.getElem_toArray, List.getElem_cons_succ, List.getElem_cons_zero])
        refine wpAnyH_take (i := 2) (v := ?_) rfl (by kernel_rfl) (by kernel_rfl) (by kernel_rfl) (fun _ _ _ h => h) (Or.inl ⟨by rfl, ?_⟩) (by assumption) ?_
        rotate_left
        · intro w' hSw; (try dsimp only at hSw); go_simp; (try with_reducible rfl)
        (try simp only [Act.put, List.setIfInBounds_toArray, List.set_cons_zero, List.set_cons_succ, List.getElem_toArray, List.getElem_cons_succ, List.getElem_cons_zero])
        refine wpAnyH_take (i := 3) (v := ?_) rfl (by kernel_rfl) (by kernel_rfl) (by kernel_rfl) (fun _ _ _ h => h) (Or.inl ⟨by rfl, ?_⟩) (by assumption) ?_
        rotate_left
        · intro w' hSw; (try dsimp only at hSw); go_simp; (try with_reducible rfl)
        (try simp only [Act.put, List.setIfInBounds_toArray, List.set_cons_zero, List.set_cons_succ, List.getElem_toArray, List.getElem_cons_succ, List.getElem_cons_zero])
        refine wpAnyH_take (i := 5) (v := ?_) rfl (by kernel_rfl) (by kernel_rfl) (by kernel_rfl) (fun _ _ _ h => h) (Or.inl ⟨by rfl, ?_⟩) (by assumption) ?_
        rotate_left
        · intro w' hSw; (try dsimp only at hSw); go_simp; (try with_reducible rfl)
        (try simp only [Act.put, List.setIfInBounds_toArray, List.set_cons_zero, List.set_cons_succ, List.getElem_toArray, List.getElem_cons_succ, List.getElem_cons_zero])
        refine wpAnyH_take (i := 6) (v := ?_) rfl (by kernel_rfl) (by kernel_rfl) (by kernel_rfl) (fun _ _ _ h => h) (Or.inl ⟨by rfl, ?_⟩) (by assumption) ?_
        rotate_left
        · intro w' hSw; (try dsimp only at hSw); go_simp; (try with_reducible rfl)
        (try simp only [Act.put, List.setIfInBounds_toArray, List.set_cons_zero, List.set_cons_succ, List.getElem_toArray, List.getElem_cons_succ, List.getElem_cons_zero])
        refine wpAnyH_take (i := 7) (v := ?_) rfl (by kernel_rfl) (by kernel_rfl) (by kernel_rfl) (fun _ _ _ h => h) (Or.inl ⟨by rfl, ?_⟩) (by assumption) ?_
        rotate_left
        · intro w' hSw; (try dsimp only at hSw); go_simp; (try with_reducible rfl)
        (try simp only [Act.put, List.setIfInBounds_toArray, List.set_cons_zero, List.set_cons_succ, List.getElem_toArray, List.getElem_cons_succ, List.getElem_cons_zero])
        refine wpAnyH_take (i := 8) (v := ?_) rfl (by kernel_rfl) (by kernel_rfl) (by kernel_rfl) (fun _ _ _ h => h) (Or.inl ⟨by rfl, ?_⟩) (by assumption) ?_
        rotate_left
        · intro w' hSw; (try dsimp only at hSw); go_simp; (try with_reducible rfl)
        (try simp only [Act.put, List.setIfInBounds_toArray, List.set_cons_zero, List.set_cons_succ, List.getElem_toArray, List.getElem_cons_succ, List.getElem_cons_zero])
        refine wpAnyH_ready (rs := [4]) (by kernel_rfl) (by simp) ?_
        refine AllReadyH.cons rfl (fun K hK => ?_) AllReadyH.nil
        go_simp
        (go_at_call 23; refine (hlc_last _ m' c' bd _ (by first | exact KV9 | exact KV9.drew)).mono ?_; rintro e w11 ⟨rfl, hb11⟩; have KX11 : Ints3 w11 (w.heap.size + 1) m' c' bd := (KX9.drew).below hb11 KX9.lt; have KV11 : Ints3 w11 w.heap.size m' c' bd := (KV9.drew).below hb11 KV9.lt; have HB11 : Below w.heap.size w w11 := Below.trans (show Below w.heap.size w _ from (by (repeat' (first | (with_reducible exact Below.refl _ _) | (with_reducible assumption) | (with_reducible refine Below.trans ?_ (Below.mono (by with_reducible assumption) ?_)) | (with_reducible refine Below.alloc ?_ ?_ _) | (with_reducible refine Below.setCell ?_ ?_ _) | (with_reducible refine below_drewN ?_ _) | (with_reducible refine Below.drew ?_) | go_size)))) (hb11.mono (Below.size (show Below w.heap.size w _ from (by (repeat' (first | (with_reducible exact Below.refl _ _) | (with_reducible assumption) | (with_reducible refine Below.trans ?_ (Below.mono (by with_reducible assumption) ?_)) | (with_reducible refine Below.alloc ?_ ?_ _) | (with_reducible refine Below.setCell ?_ ?_ _) | (with_reducible refine below_drewN ?_ _) | (with_reducible refine Below.drew ?_) | go_size)))))))
        (try dsimp only)
        refine hK.out _ _ ?_ (fun hHeld => ?_)
        · exact ⟨KX11.c0, KX11.c1, KX11.c2⟩
        clear hK K
        (try simp only [Act.put, List.setIfInBounds_toArray, List.set_cons_zero, List.set_cons_succ, List.getElem_toArray, List.getElem_cons_succ, List.getElem_cons_zero])
        refine wpAnyH_take (i := 9) (v := ?_) rfl (by kernel_rfl) (by kernel_rfl) (by kernel_rfl) (fun _ _ _ h => h) (Or.inl ⟨by rfl, ?_⟩) (by assumption) ?_
        rotate_left
        · intro w' hSw; (try dsimp only at hSw); go_simp; (try with_reducible rfl)
        (try simp only [Act.put, List.setIfInBounds_toArray, List.set_cons_zero, List.set_cons_succ, List.getElem_toArray, List.getElem_cons_succ, List.getElem_cons_zero])
        refine wpAnyH_take (i := 10) (v := ?_) rfl (by kernel_rfl) (by kernel_rfl) (by kernel_rfl) (fun _ _ _ h => h) (Or.inl ⟨by rfl, ?_⟩) (by assumption) ?_
        rotate_left
        · intro w' hSw; (try dsimp only at hSw); go_simp; (try with_reducible rfl)
        (try simp only [Act.put, List.setIfInBounds_toArray, List.set_cons_zero, List.set_cons_succ, List.getElem_toArray, List.getElem_cons_succ, List.getElem_cons_zero])
        refine wpAnyH_take (i := 11) (v := ?_) rfl (by kernel_rfl) (by kernel_rfl) (by kernel_rfl) (fun _ _ _ h => h) (Or.inl ⟨by rfl, ?_⟩) (by assumption) ?_
        rotate_left
        · intro w' hSw; (try dsimp only at hSw); go_simp; (try with_reducible rfl)
        (try simp only [Act.put, List.setIfInBounds_toArray, List.set_cons_zero, List.set_cons_succ, List.getElem_toArray, List.getElem_cons_succ, List.getElem_cons_zero])
        refine wpAnyH_take (i := 12) (v := ?_) rfl (by kernel_rfl) (by kernel_rfl) (by kernel_rfl) (fun _ _ _ h => h) (Or.inl ⟨by rfl, ?_⟩) (by assumption) ?_
        rotate_left
        · intro w' hSw; (try dsimp only at hSw); go_simp; (try with_reducible rfl)
        (try simp only [Act.put, List.setIfInBounds_toArray, List.set_cons_zero, List.set_cons_succ, List.getElem_toArray, List.getElem_cons_succ, List.getElem_cons_zero])
        refine wpAnyH_take (i := 14) (v := ?_) rfl (by kernel_rfl) (by kernel_rfl) (by kernel_rfl) (fun _ _ _ h => h) (Or.inl ⟨by rfl, ?_⟩) (by assumption) ?_
        rotate_left
        · intro w' hSw; (try dsimp only at hSw); go_simp; (try with_reducible rfl)
        (try simp only [Act.put, List.setIfInBounds_toArray, List.set_cons_zero, List.set_cons_succ, List.getElem_toArray, List.getElem_cons_succ, List.getElem_cons_zero])
        refine wpAnyH_take (i := 15) (v := ?_) rfl (by kernel_rfl) (by kernel_rfl) (by kernel_rfl) (fun _ _ _ h => h) (Or.inl ⟨by rfl, ?_⟩) (by assumption) ?_
        rotate_left
        · intro w' hSw; (try dsimp only at hSw); go_simp; (try with_reducible rfl)
        (try simp only [Act.put, List.setIfInBounds_toArray, List.set_cons_zero, List.set_cons_succ, List.getElem_toArray, List.getElem_cons_succ, List.getElem_cons_zero])
        refine wpAnyH_take (i := 16) (v := ?_) rfl (by kernel_rfl) (by kernel_rfl) (by kernel_rfl) (fun _ _ _ h => h) (Or.inl ⟨by rfl, ?_⟩) (by assumption) ?_
        rotate_left
        · intro w' hSw; (try dsimp only at hSw); go_simp; (try with_reducible rfl)
        (try simp only [Act.put, List.setIfInBounds_toArray, List.set_cons_zero, List.set_cons_succ, List.getElem_toArray, List.getElem_cons_succ, List.getElem_cons_zero])
        refine wpAnyH_take (i := 17) (v := ?_) rfl (by kernel_rfl) (by kernel_rfl) (by kernel_rfl) (fun _ _ _ h => h) (Or.inl ⟨by rfl, ?_⟩) (by assumption) ?_
        rotate_left
        · intro w' hSw; (try dsimp only at hSw); go_simp; (try with_reducible rfl)
        (try simp only [Act.put, List.setIfInBounds_toArray, List.set_cons_zero, List.set_cons_succ, List.getElem_toArray, List.getElem_cons_succ, List.getElem_cons_zero])
        refine wpAnyH_ready (rs := [13]) (by kernel_rfl) (by simp) ?_
        refine AllReadyH.cons rfl (fun K hK => ?_) AllReadyH.nil
        go_simp
        (go_at_call 24; refine (hlc_bound _ m' c' bd _ KV11).mono ?_; rintro e w' ⟨rfl, rfl⟩)
        (try dsimp only)
        refine hK.out _ _ ?_ (fun hHeld => ?_)
        · exact ⟨KX11.c0, KX11.c1, KX11.c2⟩
        clear hK K
        (try simp only [Act.put, List.setIfInBounds_toArray, List.set_cons_zero, List.set_cons_succ, List.getElem_toArray, List.getElem_cons_succ, List.getElem_cons_zero])
        refine wpAnyH_take (i := 18) (v := ?_) rfl (by kernel_rfl) (by kernel_rfl) (by kernel_rfl) (fun _ _ _ h => h) (Or.inl ⟨by rfl, ?_⟩) (by assumption) ?_
        rotate_left
        · intro w' hSw; (try dsimp only at hSw); go_simp; (try with_reducible rfl)
        (try simp only [Act.put, List.setIfInBounds_toArray, List.set_cons_zero, List.set_cons_succ, List.getElem_toArray, List.getElem_cons_succ, List.getElem_cons_zero])
        refine wpAnyH_take (i := 19) (v := ?_) rfl (by kernel_rfl) (by kernel_rfl) (by kernel_rfl) (fun _ _ _ h => h) (Or.inl ⟨by rfl, ?_⟩) (by assumption) ?_
        rotate_left
        · intro w' hSw; (try dsimp only at hSw); go_simp; (try with_reducible rfl)
        (try simp only [Act.put, List.setIfInBounds_toArray, List.set_cons_zero, List.set_cons_succ, List.getElem_toArray, List.getElem_cons_succ, List.getElem_cons_zero])
        refine wpAnyH_done (by kernel_rfl) ?_ _
        clear i0 i1 i2 i3 hb11
        go_wp2
        go_roundw
        case rel => exact ⟨k + 1, m', c', bd, by omega, by omega, by go_num, hs', hbd', KV11, KX11, HB11⟩
        case measure => simp [intOf]; omega
      · subst hkd
        obtain ⟨r, m', c', hs', S1, S2⟩ := hear_both m c bd nn 1 (z2 x y) (by omega) (by omega) hs
        have hbd' := hbd
        have HS1 := Lib.hid S1
        have HS2 := Lib.hid S2
        clear S1 S2
        go_wp2_with fail
        refine wp_region_held_drew (S := (fun w' => w'.cell? ⟨wr.heap.size, 1, none⟩ = some (.int .i64 nn) ∧ w'.cell? ⟨wr.heap.size, 2, none⟩ = some (.int .i64 x) ∧ w'.cell? ⟨wr.heap.size, 3, none⟩ = some (.int .i64 y))) (by kernel_rfl) ?_ (fun hHeld => ?_)
        · exact ⟨q1, q2, q3⟩
        refine wpAnyH_take (i := 0) (v := ?_) rfl (by kernel_rfl) (by kernel_rfl) (by kernel_rfl) (fun _ _ _ h => h) (Or.inl ⟨by rfl, ?_⟩) (by assumption) ?_
        rotate_left
        · intro w' hSw; (try dsimp only at hSw); go_simp; (try with_reducible rfl)
        (try simp only [Act.put, List.setIfInBounds_toArray, List.set_cons_zero, List.set_cons_succ, List.getElem_toArray, List.getElem_cons_succ, List.getElem_cons_zero])
        refine wpAnyH_take (i := 1) (v := ?_) rfl (by kernel_rfl) (by kernel_rfl) (by kernel_rfl) (fun _ _ _ h => h) (Or.inl ⟨by rfl, ?_⟩) (by assumption) ?_
        rotate_left
        · intro w' hSw; (try dsimp only at hSw); go_simp; (try with_reducible rfl)
        (try simp only [Act.put, List.setIfInBounds_toArray, List.set_cons_zero, List.set_cons_succ, List.getElem_toArray, List.getElem_cons_succ, List.getElem_cons_zero])
        refine wpAnyH_take (i := 2) (v := ?_) rfl (by kernel_rfl) (by kernel_rfl) (by kernel_rfl) (fun _ _ _ h => h) (Or.inl ⟨by rfl, ?_⟩) (by assumption) ?_
        rotate_left
        · intro w' hSw; (try dsimp only at hSw); go_simp; (try with_reducible rfl)
        (try simp only [Act.put, List.setIfInBounds_toArray, List.set_cons_zero, List.set_cons_succ, List.getElem_toArray, List.getElem_cons_succ, List.getElem_cons_zero])
        refine wpAnyH_take (i := 3) (v := ?_) rfl (by kernel_rfl) (by kernel_rfl) (by kernel_rfl) (fun _ _ _ h => h) (Or.inl ⟨by rfl, ?_⟩) (by assumption) ?_
        rotate_left
        · intro w' hSw; (try dsimp only at hSw); go_simp; (try with_reducible rfl)
        (try simp only [Act.put, List.setIfInBounds_toArray, List.set_cons_zero, List.set_cons_succ, List.getElem_toArray, List.getElem_cons_succ, List.getElem_cons_zero])
        refine wpAnyH_take (i := 4) (v := ?_) rfl (by kernel_rfl) (by kernel_rfl) (by kernel_rfl) (fun _ _ _ h => h) (Or.inl ⟨by rfl, ?_⟩) (by assumption) ?_
        rotate_left
        · intro w' hSw; (try dsimp only at hSw); go_simp; (try with_reducible rfl)
        (try simp only [Act.put, List.setIfInBounds_toArray, List.set_cons_zero, List.set_cons_succ, List.getElem_toArray, List.getElem_cons_succ, List.getElem_cons_zero])
        refine wpAnyH_take (i := 7) (v := ?_) rfl (by kernel_rfl) (by kernel_rfl) (by kernel_rfl) (fun _ _ _ h => h) (Or.inl ⟨by rfl, ?_⟩) (by assumption) ?_
        rotate_left
        · intro w' hSw; (try dsimp only at hSw); go_simp; (try with_reducible rfl)
        (try simp only [Act.put, List.setIfInBounds_toArray, List.set_cons_zero, List.set_cons_succ, List.getElem_toArray, List.getElem_cons_succ, List.getElem_cons_zero])
        refine wpAnyH_take (i := 8) (v := ?_) rfl (by kernel_rfl) (by kernel_rfl) (by kernel_rfl) (fun _ _ _ h => h) (Or.inl ⟨by rfl, ?_⟩) (by assumption) ?_
        rotate_left
        · intro w' hSw; (try dsimp only at hSw); go_simp; (try with_reducible rfl)
        (try simp only [Act.put, List.setIfInBounds_toArray, List.set_cons_zero, List.set_cons_succ, List.getElem_toArray, List.getElem_cons_succ, List.getElem_cons_zero])
        refine wpAnyH_take (i := 9) (v := ?_) rfl (by kernel_rfl) (by kernel_rfl) (by kernel_rfl) (fun _ _ _ h => h) (Or.inl ⟨by rfl, ?_⟩) (by assumption) ?_
        rotate_left
        · intro w' hSw; (try dsimp only at hSw); go_simp; (try with_reducible rfl)
        (try simp only [Act.put, List.setIfInBounds_toArray, List.set_cons_zero, List.set_cons_succ, List.getElem_toArray, List.getElem_cons_succ, List.getElem_cons_zero])
        refine wpAnyH_take (i := 10) (v := ?_) rfl (by kernel_rfl) (by kernel_rfl) (by kernel_rfl) (fun _ _ _ h => h) (Or.inl ⟨by rfl, ?_⟩) (by assumption) ?_
        rotate_left
        · intro w' hSw; (try dsimp only at hSw); go_simp; (try with_reducible rfl)
        (try simp only [Act.put, List.setIfInBounds_toArray, List.set_cons_zero, List.set_cons_succ, List.getElem_toArray, List.getElem_cons_succ, List.getElem_cons_zero])
        refine wpAnyH_take (i := 11) (v := ?_) rfl (by kernel_rfl) (by kernel_rfl) (by kernel_rfl) (fun _ _ _ h => h) (Or.inl ⟨by rfl, ?_⟩) (by assumption) ?_
        rotate_left
        · intro w' hSw; (try dsimp only at hSw); go_simp; (try with_reducible rfl)
        (try simp only [Act.put, List.setIfInBounds_toArray, List.set_cons_zero, List.set_cons_succ, List.getElem_toArray, List.getElem_cons_succ, List.getElem_cons_zero])
        have KVa : Ints3 (wr.alloc (.cells #[.int .i64 2, .int .i64 nn, .int .i64 x, .int .i64 y, .int .i64 ox, .int .i64 oy] 34)) w.heap.size m c bd := HKV.out
        have KXa : Ints3 (wr.alloc (.cells #[.int .i64 2, .int .i64 nn, .int .i64 x, .int .i64 y, .int .i64 ox, .int .i64 oy] 34)) (w.heap.size + 1) m c bd := HKX.out
        have HB0a : Below w.heap.size w (wr.alloc (.cells #[.int .i64 2, .int .i64 nn, .int .i64 x, .int .i64 y, .int .i64 ox, .int .i64 oy] 34)) := HBa.out
        have q1a : (wr.alloc (.cells #[.int .i64 2, .int .i64 nn, .int .i64 x, .int .i64 y, .int .i64 ox, .int .i64 oy] 34)).cell? ⟨wr.heap.size, 1, none⟩ = some (.int .i64 nn) := q1
        have q2a : (wr.alloc (.cells #[.int .i64 2, .int .i64 nn, .int .i64 x, .int .i64 y, .int .i64 ox, .int .i64 oy] 34)).cell? ⟨wr.heap.size, 2, none⟩ = some (.int .i64 x) := q2
        have q3a : (wr.alloc (.cells #[.int .i64 2, .int .i64 nn, .int .i64 x, .int .i64 y, .int .i64 ox, .int .i64 oy] 34)).cell? ⟨wr.heap.size, 3, none⟩ = some (.int .i64 y) := q3
        have lla : wr.heap.size < (wr.alloc (.cells #[.int .i64 2, .int .i64 nn, .int .i64 x, .int .i64 y, .int .i64 ox, .int .i64 oy] 34)).heap.size := la
        clear zA
        generalize hWa : (wr.alloc (.cells #[.int .i64 2, .int .i64 nn, .int .i64 x, .int .i64 y, .int .i64 ox, .int .i64 oy] 34)) = Wa at *
        clear hWa
        refine wpAnyH_ready (rs := [5, 12]) (by kernel_rfl) (by simp) ?_
        refine AllReadyH.cons rfl (fun K hK => ?_) (AllReadyH.cons rfl (fun K hK => ?_) (AllReadyH.nil))
        ·
          go_simp
          (try dsimp only)
          refine hK.out _ _ ?_ (fun hHeld => ?_)
          · exact ⟨(World.cell?_alloc_past (.cells #[.int .i64 x, .int .i64 y] 32) wr.heap.size 1 lla).trans q1a, (World.cell?_alloc_past (.cells #[.int .i64 x, .int .i64 y] 32) wr.heap.size 2 lla).trans q2a, (World.cell?_alloc_past (.cells #[.int .i64 x, .int .i64 y] 32) wr.heap.size 3 lla).trans q3a⟩
          clear hK K
          (try simp only [Act.put, List.setIfInBounds_toArray, List.set_cons_zero, List.set_cons_succ, List.getElem_toArray, List.getElem_cons_succ, List.getElem_cons_zero])
          have KVb : Ints3 (Wa.alloc (.cells #[.int .i64 x, .int .i64 y] 32)).drew w.heap.size _ _ _ := (KVa.alloc (.cells #[.int .i64 x, .int .i64 y] 32)).drew
          have KXb : Ints3 (Wa.alloc (.cells #[.int .i64 x, .int .i64 y] 32)).drew (w.heap.size + 1) m c bd := (KXa.alloc (.cells #[.int .i64 x, .int .i64 y] 32)).drew
          have HB0b : Below w.heap.size w (Wa.alloc (.cells #[.int .i64 x, .int .i64 y] 32)).drew := (HB0a.alloc HB0a.size (.cells #[.int .i64 x, .int .i64 y] 32)).drew
          have fl10 : FlatAt (Wa.alloc (.cells #[.int .i64 x, .int .i64 y] 32)) (some ⟨Wa.heap.size, 0, none⟩) 2 1 (z2 x y) := flat1 (new_cell Wa rfl _ _ 0) (new_cell Wa rfl _ _ 1) bx by' (by simp)
          have fl1 : FlatAt (Wa.alloc (.cells #[.int .i64 x, .int .i64 y] 32)).drew (some ⟨Wa.heap.size, 0, none⟩) 2 1 (z2 x y) := fl10
          have q1b : World.cell? (Wa.alloc (.cells #[.int .i64 x, .int .i64 y] 32)).drew ⟨wr.heap.size, 1, none⟩ = _ := (World.cell?_alloc_past (.cells #[.int .i64 x, .int .i64 y] 32) wr.heap.size 1 lla).trans q1a
          have q2b : World.cell? (Wa.alloc (.cells #[.int .i64 x, .int .i64 y] 32)).drew ⟨wr.heap.size, 2, none⟩ = _ := (World.cell?_alloc_past (.cells #[.int .i64 x, .int .i64 y] 32) wr.heap.size 2 lla).trans q2a
          have q3b : World.cell? (Wa.alloc (.cells #[.int .i64 x, .int .i64 y] 32)).drew ⟨wr.heap.size, 3, none⟩ = _ := (World.cell?_alloc_past (.cells #[.int .i64 x, .int .i64 y] 32) wr.heap.size 3 lla).trans q3a
          have llb : wr.heap.size < (Wa.alloc (.cells #[.int .i64 x, .int .i64 y] 32)).drew.heap.size := by simp; omega
          have nsb : wr.heap.size < Wa.heap.size := lla
          clear fl10
          generalize hWb : (Wa.alloc (.cells #[.int .i64 x, .int .i64 y] 32)).drew = Wb at *
          have HWb := Lib.hid hWb
          clear hWb
          refine wpAnyH_ready (rs := [6, 12]) (by kernel_rfl) (by simp) ?_
          refine AllReadyH.cons rfl (fun K hK => ?_) (AllReadyH.cons rfl (fun K hK => ?_) (AllReadyH.nil))
          ·
            go_simp
            (go_at_call 19; refine (HS1.out _ _ _ _ KVb fl1 (by omega)).mono ?_; rintro e Wc ⟨rfl, ho, KVc⟩)
            (try dsimp only)
            have KXc := KXb.only ho (by omega)
            have HB0c : Below w.heap.size w Wc := HB0b.trans (ho.below (Nat.le_refl _) HB0b.size)
            have q1c := (ho.cell wr.heap.size 1 llb nab).trans q1b
            have q2c := (ho.cell wr.heap.size 2 llb nab).trans q2b
            have q3c := (ho.cell wr.heap.size 3 llb nab).trans q3b
            have llc : wr.heap.size < Wc.heap.size := Nat.lt_of_lt_of_le llb ho.size
            refine hK.out _ _ ?_ (fun hHeld => ?_)
            · exact ⟨q1c, q2c, q3c⟩
            clear hK K
            (try simp only [Act.put, List.setIfInBounds_toArray, List.set_cons_zero, List.set_cons_succ, List.getElem_toArray, List.getElem_cons_succ, List.getElem_cons_zero])
            clear ho fl1
            refine wpAnyH_ready (rs := [12]) (by kernel_rfl) (by simp) ?_
            refine AllReadyH.cons rfl (fun K hK => ?_) (AllReadyH.nil)
            go_simp
            (try dsimp only)
            refine hK.out _ _ ?_ (fun hHeld => ?_)
            · exact ⟨(World.cell?_alloc_past (.cells #[.int .i64 x, .int .i64 y] 32) wr.heap.size 1 llc).trans q1c, (World.cell?_alloc_past (.cells #[.int .i64 x, .int .i64 y] 32) wr.heap.size 2 llc).trans q2c, (World.cell?_alloc_past (.cells #[.int .i64 x, .int .i64 y] 32) wr.heap.size 3 llc).trans q3c⟩
            clear hK K
            (try simp only [Act.put, List.setIfInBounds_toArray, List.set_cons_zero, List.set_cons_succ, List.getElem_toArray, List.getElem_cons_succ, List.getElem_cons_zero])
            have KVd : Ints3 (Wc.alloc (.cells #[.int .i64 x, .int .i64 y] 32)) w.heap.size _ _ _ := (KVc.alloc (.cells #[.int .i64 x, .int .i64 y] 32))
            have KXd : Ints3 (Wc.alloc (.cells #[.int .i64 x, .int .i64 y] 32)) (w.heap.size + 1) m c bd := (KXc.alloc (.cells #[.int .i64 x, .int .i64 y] 32))
            have HB0d : Below w.heap.size w (Wc.alloc (.cells #[.int .i64 x, .int .i64 y] 32)) := (HB0c.alloc HB0c.size (.cells #[.int .i64 x, .int .i64 y] 32))
            have fl20 : FlatAt (Wc.alloc (.cells #[.int .i64 x, .int .i64 y] 32)) (some ⟨Wc.heap.size, 0, none⟩) 2 1 (z2 x y) := flat1 (new_cell Wc rfl _ _ 0) (new_cell Wc rfl _ _ 1) bx by' (by simp)
            have fl2 : FlatAt (Wc.alloc (.cells #[.int .i64 x, .int .i64 y] 32)) (some ⟨Wc.heap.size, 0, none⟩) 2 1 (z2 x y) := fl20
            have q1d : World.cell? (Wc.alloc (.cells #[.int .i64 x, .int .i64 y] 32)) ⟨wr.heap.size, 1, none⟩ = _ := (World.cell?_alloc_past (.cells #[.int .i64 x, .int .i64 y] 32) wr.heap.size 1 llc).trans q1c
            have q2d : World.cell? (Wc.alloc (.cells #[.int .i64 x, .int .i64 y] 32)) ⟨wr.heap.size, 2, none⟩ = _ := (World.cell?_alloc_past (.cells #[.int .i64 x, .int .i64 y] 32) wr.heap.size 2 llc).trans q2c
            have q3d : World.cell? (Wc.alloc (.cells #[.int .i64 x, .int .i64 y] 32)) ⟨wr.heap.size, 3, none⟩ = _ := (World.cell?_alloc_past (.cells #[.int .i64 x, .int .i64 y] 32) wr.heap.size 3 llc).trans q3c
            have lld : wr.heap.size < (Wc.alloc (.cells #[.int .i64 x, .int .i64 y] 32)).heap.size := by simp; omega
            have nsd : wr.heap.size < Wc.heap.size := llc
            clear fl20
            generalize hWd : (Wc.alloc (.cells #[.int .i64 x, .int .i64 y] 32)) = Wd at *
            have HWd := Lib.hid hWd
            clear hWd
            refine wpAnyH_ready (rs := [13]) (by kernel_rfl) (by simp) ?_
            refine AllReadyH.cons rfl (fun K hK => ?_) (AllReadyH.nil)
            go_simp
            (go_at_call 20; refine (HS2.out _ _ _ _ KXd fl2).mono ?_; rintro e w9 ⟨rfl, ho9, KX9⟩)
            (try dsimp only)
            have KV9 := KVd.only ho9 (by omega)
            have HB9 : Below w.heap.size w w9 := HB0d.trans (ho9.below (by omega) HB0d.size)
            refine hK.out _ _ ?_ (fun hHeld => ?_)
            · exact ⟨(ho9.cell wr.heap.size 1 lld nac).trans q1d, (ho9.cell wr.heap.size 2 lld nac).trans q2d, (ho9.cell wr.heap.size 3 lld nac).trans q3d⟩
            clear hK K
            (try simp only [Act.put, List.setIfInBounds_toArray, List.set_cons_zero, List.set_cons_succ, List.getElem_toArray, List.getElem_cons_succ, List.getElem_cons_zero])
            refine wpAnyH_take (i := 14) (v := ?_) rfl (by kernel_rfl) (by kernel_rfl) (by kernel_rfl) (fun _ _ _ h => h) (Or.inl ⟨by rfl, ?_⟩) (by assumption) ?_
            rotate_left
            · intro w' hSw; (try dsimp only at hSw); go_simp; (try with_reducible rfl)
            (try simp only [Act.put, List.setIfInBounds_toArray, List.set_cons_zero, List.set_cons_succ, List.getElem_toArray, List.getElem_cons_succ, List.getElem_cons_zero])
            refine wpAnyH_take (i := 15) (v := ?_) rfl (by kernel_rfl) (by kernel_rfl) (by kernel_rfl) (fun _ _ _ h => h) (Or.inl ⟨by rfl, ?_⟩) (by assumption) ?_
            rotate_left
            · intro w' hSw; (try dsimp only at hSw); go_simp; (try with_reducible rfl)
            (try simp only [Act.put, List.setIfInBounds_toArray, List.set_cons_zero, List.set_cons_succ, List.getElem_toArray, List.getElem_cons_succ, List.getElem_cons_zero])
            refine wpAnyH_done (by kernel_rfl) ?_ _
            have i0 := KX9.c0
            have i1 := KX9.c1
            have i2 := KX9.c2
            have i3 := KX9.lt
            go_wp2_with fail
            refine wp_region_held_drew (S := (fun w' => w'.cell? ⟨w.heap.size + 1, 0, none⟩ = some (.int .i64 m') ∧ w'.cell? ⟨w.heap.size + 1, 1, none⟩ = some (.int .i64 c') ∧ w'.cell? ⟨w.heap.size + 1, 2, none⟩ = some (.int .i64 bd))) (by kernel_rfl) ?_ (fun hHeld => ?_)
            · exact ⟨i0, i1, i2⟩
            refine wpAnyH_take (i := 0) (v := ?_) rfl (by kernel_rfl) (by kernel_rfl) (by kernel_rfl) (fun _ _ _ h => h) (Or.inl ⟨by rfl, ?_⟩) (by assumption) ?_
            rotate_left
            · intro w' hSw; (try dsimp only at hSw); go_simp; (try with_reducible rfl)
            (try simp only [Act.put, List.setIfInBounds_toArray, List.set_cons_zero, List.set_cons_succ, List.getElem_toArray, List.getElem_cons_succ, List.getElem_cons_zero])
            refine wpAnyH_take (i := 1) (v := ?_) rfl (by kernel_rfl) (by kernel_rfl) (by kernel_rfl) (fun _ _ _ h => h) (Or.inl ⟨by rfl, ?_⟩) (by assumption) ?_
            rotate_left
            · intro w' hSw; (try dsimp only at hSw); go_simp; (try with_reducible rfl)
            (try simp only [Act.put, List.setIfInBounds_toArray, List.set_cons_zero, List.set_cons_succ, List.getElem_toArray, List.getElem_cons_succ, List.getElem_cons_zero])
            refine wpAnyH_take (i := 2) (v := ?_) rfl (by kernel_rfl) (by kernel_rfl) (by kernel_rfl) (fun _ _ _ h => h) (Or.inl ⟨by rfl, ?_⟩) (by assumption) ?_
            rotate_left
            · intro w' hSw; (try dsimp only at hSw); go_simp; (try with_reducible rfl)
            (try simp only [Act.put, List.setIfInBounds_toArray, List.set_cons_zero, List.set_cons_succ, List.getElem_toArray, List.getElem_cons_succ, List.getElem_cons_zero])
            refine wpAnyH_take (i := 3) (v := ?_) rfl (by kernel_rfl) (by kernel_rfl) (by kernel_rfl) (fun _ _ _ h => h) (Or.inl ⟨by rfl, ?_⟩) (by assumption) ?_
            rotate_left
            · intro w' hSw; (try dsimp only at hSw); go_simp; (try with_reducible rfl)
            (try simp only [Act.put, List.setIfInBounds_toArray, List.set_cons_zero, List.set_cons_succ, List.getElem_toArray, List.getElem_cons_succ, List.getElem_cons_zero])
            refine wpAnyH_take (i := 5) (v := ?_) rfl (by kernel_rfl) (by kernel_rfl) (by kernel_rfl) (fun _ _ _ h => h) (Or.inl ⟨by rfl, ?_⟩) (by assumption) ?_
            rotate_left
            · intro w' hSw; (try dsimp only at hSw); go_simp; (try with_reducible rfl)
            (try simp only [Act.put, List.setIfInBounds_toArray, List.set_cons_zero, List.set_cons_succ, List.getElem_toArray, List.getElem_cons_succ, List.getElem_cons_zero])
            refine wpAnyH_take (i := 6) (v := ?_) rfl (by kernel_rfl) (by kernel_rfl) (by kernel_rfl) (fun _ _ _ h => h) (Or.inl ⟨by rfl, ?_⟩) (by assumption) ?_
            rotate_left
            · intro w' hSw; (try dsimp only at hSw); go_simp; (try with_reducible rfl)
            (try simp only [Act.put, List.setIfInBounds_toArray, List.set_cons_zero, List.set_cons_succ, List.getElem_toArray, List.getElem_cons_succ, List.getElem_cons_zero])
            refine wpAnyH_take (i := 7) (v := ?_) rfl (by kernel_rfl) (by kernel_rfl) (by kernel_rfl) (fun _ _ _ h => h) (Or.inl ⟨by rfl, ?_⟩) (by assumption) ?_
            rotate_left
            · intro w' hSw; (try dsimp only at hSw); go_simp; (try with_reducible rfl)
            (try simp only [Act.put, List.setIfInBounds_toArray, List.set_cons_zero, List.set_cons_succ, List.getElem_toArray, List.getElem_cons_succ, List.getElem_cons_zero])
            refine wpAnyH_take (i := 8) (v := ?_) rfl (by kernel_rfl) (by kernel_rfl) (by kernel_rfl) (fun _ _ _ h => h) (Or.inl ⟨by rfl, ?_⟩) (by assumption) ?_
            rotate_left
            · intro w' hSw; (try dsimp only at hSw); go_simp; (try with_reducible rfl)
            (try simp only [Act.put, List.setIfInBounds_toArray, List.set_cons_zero, List.set_cons_succ, List.getElem_toArray, List.getElem_cons_succ, List.getElem_cons_zero])
            refine wpAnyH_ready (rs := [4]) (by kernel_rfl) (by simp) ?_
            refine AllReadyH.cons rfl (fun K hK => ?_) AllReadyH.nil
            go_simp
            (go_at_call 23; refine (hlc_last _ m' c' bd _ (by first | exact KV9 | exact KV9.drew)).mono ?_; rintro e w11 ⟨rfl, hb11⟩; have KX11 : Ints3 w11 (w.heap.size + 1) m' c' bd := (KX9.drew).below hb11 KX9.lt; have KV11 : Ints3 w11 w.heap.size m' c' bd := (KV9.drew).below hb11 KV9.lt; have HB11 : Below w.heap.size w w11 := Below.trans (show Below w.heap.size w _ from (by (repeat' (first | (with_reducible exact Below.refl _ _) | (with_reducible assumption) | (with_reducible refine Below.trans ?_ (Below.mono (by with_reducible assumption) ?_)) | (with_reducible refine Below.alloc ?_ ?_ _) | (with_reducible refine Below.setCell ?_ ?_ _) | (with_reducible refine below_drewN ?_ _) | (with_reducible refine Below.drew ?_) | go_size)))) (hb11.mono (Below.size (show Below w.heap.size w _ from (by (repeat' (first | (with_reducible exact Below.refl _ _) | (with_reducible assumption) | (with_reducible refine Below.trans ?_ (Below.mono (by with_reducible assumption) ?_)) | (with_reducible refine Below.alloc ?_ ?_ _) | (with_reducible refine Below.setCell ?_ ?_ _) | (with_reducible refine below_drewN ?_ _) | (with_reducible refine Below.drew ?_) | go_size)))))))
            (try dsimp only)
            refine hK.out _ _ ?_ (fun hHeld => ?_)
            · exact ⟨KX11.c0, KX11.c1, KX11.c2⟩
            clear hK K
            (try simp only [Act.put, List.setIfInBounds_toArray, List.set_cons_zero, List.set_cons_succ, List.getElem_toArray, List.getElem_cons_succ, List.getElem_cons_zero])
            refine wpAnyH_take (i := 9) (v := ?_) rfl (by kernel_rfl) (by kernel_rfl) (by kernel_rfl) (fun _ _ _ h => h) (Or.inl ⟨by rfl, ?_⟩) (by assumption) ?_
            rotate_left
            · intro w' hSw; (try dsimp only at hSw); go_simp; (try with_reducible rfl)
            (try simp only [Act.put, List.setIfInBounds_toArray, List.set_cons_zero, List.set_cons_succ, List.getElem_toArray, List.getElem_cons_succ, List.getElem_cons_zero])
            refine wpAnyH_take (i := 10) (v := ?_) rfl (by kernel_rfl) (by kernel_rfl) (by kernel_rfl) (fun _ _ _ h => h) (Or.inl ⟨by rfl, ?_⟩) (by assumption) ?_
            rotate_left
            · intro w' hSw; (try dsimp only at hSw); go_simp; (try with_reducible rfl)
            (try simp only [Act.put, List.setIfInBounds_toArray, List.set_cons_zero, List.set_cons_succ, List.getElem_toArray, List.getElem_cons_succ, List.getElem_cons_zero])
            refine wpAnyH_take (i := 11) (v := ?_) rfl (by kernel_rfl) (by kernel_rfl) (by kernel_rfl) (fun _ _ _ h => h) (Or.inl ⟨by rfl, ?_⟩) (by assumption) ?_
            rotate_left
            · intro w' hSw; (try dsimp only at hSw); go_simp; (try with_reducible rfl)
            (try simp only [Act.put, List.setIfInBounds_toArray, List.set_cons_zero, List.set_cons_succ, List.getElem_toArray, List.getElem_cons_succ, List.getElem_cons_zero])
            refine wpAnyH_take (i := 12) (v := ?_) rfl (by kernel_rfl) (by kernel_rfl) (by kernel_rfl) (fun _ _ _ h => h) (Or.inl ⟨by rfl, ?_⟩) (by assumption) ?_
            rotate_left
            · intro w' hSw; (try dsimp only at hSw); go_simp; (try with_reducible rfl)
            (try simp only [Act.put, List.setIfInBounds_toArray, List.set_cons_zero, List.set_cons_succ, List.getElem_toArray, List.getElem_cons_succ, List.getElem_cons_zero])
            refine wpAnyH_take (i := 14) (v := ?_) rfl (by kernel_rfl) (by kernel_rfl) (by kernel_rfl) (fun _ _ _ h => h) (Or.inl ⟨by rfl, ?_⟩) (by assumption) ?_
            rotate_left
            · intro w' hSw; (try dsimp only at hSw); go_simp; (try with_reducible rfl)
            (try simp only [Act.put, List.setIfInBounds_toArray, List.set_cons_zero, List.set_cons_succ, List.getElem_toArray, List.getElem_cons_succ, List.getElem_cons_zero])
            refine wpAnyH_take (i := 15) (v := ?_) rfl (by kernel_rfl) (by kernel_rfl) (by kernel_rfl) (fun _ _ _ h => h) (Or.inl ⟨by rfl, ?_⟩) (by assumption) ?_
            rotate_left
            · intro w' hSw; (try dsimp only at hSw); go_simp; (try with_reducible rfl)
            (try simp only [Act.put, List.setIfInBounds_toArray, List.set_cons_zero, List.set_cons_succ, List.getElem_toArray, List.getElem_cons_succ, List.getElem_cons_zero])
            refine wpAnyH_take (i := 16) (v := ?_) rfl (by kernel_rfl) (by kernel_rfl) (by kernel_rfl) (fun _ _ _ h => h) (Or.inl ⟨by rfl, ?_⟩) (by assumption) ?_
            rotate_left
            · intro w' hSw; (try dsimp only at hSw); go_simp; (try with_reducible rfl)
            (try simp only [Act.put, List.setIfInBounds_toArray, List.set_cons_zero, List.set_cons_succ, List.getElem_toArray, List.getElem_cons_succ, List.getElem_cons_zero])
            refine wpAnyH_take (i := 17) (v := ?_) rfl (by kernel_rfl) (by kernel_rfl) (by kernel_rfl) (fun _ _ _ h => h) (Or.inl ⟨by rfl, ?_⟩) (by assumption) ?_
            rotate_left
            · intro w' hSw; (try dsimp only at hSw); go_simp; (try with_reducible rfl)
            (try simp only [Act.put, List.setIfInBounds_toArray, List.set_cons_zero, List.set_cons_succ, List.getElem_toArray, List.getElem_cons_succ, List.getElem_cons_zero])
            refine wpAnyH_ready (rs := [13]) (by kernel_rfl) (by simp) ?_
            refine AllReadyH.cons rfl (fun K hK => ?_) AllReadyH.nil
            go_simp
            (go_at_call 24; refine (hlc_bound _ m' c' bd _ KV11).mono ?_; rintro e w' ⟨rfl, rfl⟩)
            (try dsimp only)
            refine hK.out _ _ ?_ (fun hHeld => ?_)
            · exact ⟨KX11.c0, KX11.c1, KX11.c2⟩
            clear hK K
            (try simp only [Act.put, List.setIfInBounds_toArray, List.set_cons_zero, List.set_cons_succ, List.getElem_toArray, List.getElem_cons_succ, List.getElem_cons_zero])
            refine wpAnyH_take (i := 18) (v := ?_) rfl (by kernel_rfl) (by kernel_rfl) (by kernel_rfl) (fun _ _ _ h => h) (Or.inl ⟨by rfl, ?_⟩) (by assumption) ?_
            rotate_left
            · intro w' hSw; (try dsimp only at hSw); go_simp; (try with_reducible rfl)
            (try simp only [Act.put, List.setIfInBounds_toArray, List.set_cons_zero, List.set_cons_succ, List.getElem_toArray, List.getElem_cons_succ, List.getElem_cons_zero])
            refine wpAnyH_take (i := 19) (v := ?_) rfl (by kernel_rfl) (by kernel_rfl) (by kernel_rfl) (fun _ _ _ h => h) (Or.inl ⟨by rfl, ?_⟩) (by assumption) ?_
            rotate_left
            · intro w' hSw; (try dsimp only at hSw); go_simp; (try with_reducible rfl)
            (try simp only [Act.put, List.setIfInBounds_toArray, List.set_cons_zero, List.set_cons_succ, List.getElem_toArray, List.getElem_cons_succ, List.getElem_cons_zero])
            refine wpAnyH_done (by kernel_rfl) ?_ _
            clear i0 i1 i2 i3 hb11
            go_wp2
            go_roundw
            case rel => exact ⟨k + 1, m', c', bd, by omega, by omega, by go_num, hs', hbd', KV11, KX11, HB11⟩
            case measure => simp [intOf]; omega
          ·
            go_simp
            (try dsimp only)
            refine hK.out _ _ ?_ (fun hHeld => ?_)
            · exact ⟨(World.cell?_alloc_past (.cells #[.int .i64 x, .int .i64 y] 32) wr.heap.size 1 llb).trans q1b, (World.cell?_alloc_past (.cells #[.int .i64 x, .int .i64 y] 32) wr.heap.size 2 llb).trans q2b, (World.cell?_alloc_past (.cells #[.int .i64 x, .int .i64 y] 32) wr.heap.size 3 llb).trans q3b⟩
            clear hK K
            (try simp only [Act.put, List.setIfInBounds_toArray, List.set_cons_zero, List.set_cons_succ, List.getElem_toArray, List.getElem_cons_succ, List.getElem_cons_zero])
            have KVc : Ints3 (Wb.alloc (.cells #[.int .i64 x, .int .i64 y] 32)) w.heap.size _ _ _ := (KVb.alloc (.cells #[.int .i64 x, .int .i64 y] 32))
            have KXc : Ints3 (Wb.alloc (.cells #[.int .i64 x, .int .i64 y] 32)) (w.heap.size + 1) m c bd := (KXb.alloc (.cells #[.int .i64 x, .int .i64 y] 32))
            have HB0c : Below w.heap.size w (Wb.alloc (.cells #[.int .i64 x, .int .i64 y] 32)) := (HB0b.alloc HB0b.size (.cells #[.int .i64 x, .int .i64 y] 32))
            have fl20 : FlatAt (Wb.alloc (.cells #[.int .i64 x, .int .i64 y] 32)) (some ⟨Wb.heap.size, 0, none⟩) 2 1 (z2 x y) := flat1 (new_cell Wb rfl _ _ 0) (new_cell Wb rfl _ _ 1) bx by' (by simp)
            have fl2 : FlatAt (Wb.alloc (.cells #[.int .i64 x, .int .i64 y] 32)) (some ⟨Wb.heap.size, 0, none⟩) 2 1 (z2 x y) := fl20
            have q1c : World.cell? (Wb.alloc (.cells #[.int .i64 x, .int .i64 y] 32)) ⟨wr.heap.size, 1, none⟩ = _ := (World.cell?_alloc_past (.cells #[.int .i64 x, .int .i64 y] 32) wr.heap.size 1 llb).trans q1b
            have q2c : World.cell? (Wb.alloc (.cells #[.int .i64 x, .int .i64 y] 32)) ⟨wr.heap.size, 2, none⟩ = _ := (World.cell?_alloc_past (.cells #[.int .i64 x, .int .i64 y] 32) wr.heap.size 2 llb).trans q2b
            have q3c : World.cell? (Wb.alloc (.cells #[.int .i64 x, .int .i64 y] 32)) ⟨wr.heap.size, 3, none⟩ = _ := (World.cell?_alloc_past (.cells #[.int .i64 x, .int .i64 y] 32) wr.heap.size 3 llb).trans q3b
            have llc : wr.heap.size < (Wb.alloc (.cells #[.int .i64 x, .int .i64 y] 32)).heap.size := by simp; omega
            have nsc : wr.heap.size < Wb.heap.size := llb
            clear fl20
            generalize hWc : (Wb.alloc (.cells #[.int .i64 x, .int .i64 y] 32)) = Wc at *
            have HWc := Lib.hid hWc
            clear hWc
            have fl1' : FlatAt Wc _ 2 1 (z2 x y) := HWc.out ▸ fl1.alloc (.cells #[.int .i64 x, .int .i64 y] 32)
            refine wpAnyH_ready (rs := [6]) (by kernel_rfl) (by simp) ?_
            refine AllReadyH.cons rfl (fun K hK => ?_) (AllReadyH.nil)
            go_simp
            (go_at_call 19; refine (HS1.out _ _ _ _ KVc fl1' (by omega)).mono ?_; rintro e Wd ⟨rfl, ho, KVd⟩)
            (try dsimp only)
            have KXd := KXc.only ho (by omega)
            have HB0d : Below w.heap.size w Wd := HB0c.trans (ho.below (Nat.le_refl _) HB0c.size)
            have q1d := (ho.cell wr.heap.size 1 llc nab).trans q1c
            have q2d := (ho.cell wr.heap.size 2 llc nab).trans q2c
            have q3d := (ho.cell wr.heap.size 3 llc nab).trans q3c
            have lld : wr.heap.size < Wd.heap.size := Nat.lt_of_lt_of_le llc ho.size
            refine hK.out _ _ ?_ (fun hHeld => ?_)
            · exact ⟨q1d, q2d, q3d⟩
            clear hK K
            (try simp only [Act.put, List.setIfInBounds_toArray, List.set_cons_zero, List.set_cons_succ, List.getElem_toArray, List.getElem_cons_succ, List.getElem_cons_zero])
            have fl2' := fl2.only ho (by omega)
            refine wpAnyH_ready (rs := [13]) (by kernel_rfl) (by simp) ?_
            refine AllReadyH.cons rfl (fun K hK => ?_) (AllReadyH.nil)
            go_simp
            (go_at_call 20; refine (HS2.out _ _ _ _ KXd fl2').mono ?_; rintro e w9 ⟨rfl, ho9, KX9⟩)
            (try dsimp only)
            have KV9 := KVd.only ho9 (by omega)
            have HB9 : Below w.heap.size w w9 := HB0d.trans (ho9.below (by omega) HB0d.size)
            refine hK.out _ _ ?_ (fun hHeld => ?_)
            · exact ⟨(ho9.cell wr.heap.size 1 lld nac).trans q1d, (ho9.cell wr.heap.size 2 lld nac).trans q2d, (ho9.cell wr.heap.size 3 lld nac).trans q3d⟩
            clear hK K
            (try simp only [Act.put, List.setIfInBounds_toArray, List.set_cons_zero, List.set_cons_succ, List.getElem_toArray, List.getElem_cons_succ, List.getElem_cons_zero])
            refine wpAnyH_take (i := 14) (v := ?_) rfl (by kernel_rfl) (by kernel_rfl) (by kernel_rfl) (fun _ _ _ h => h) (Or.inl ⟨by rfl, ?_⟩) (by assumption) ?_
            rotate_left
            · intro w' hSw; (try dsimp only at hSw); go_simp; (try with_reducible rfl)
            (try simp only [Act.put, List.setIfInBounds_toArray, List.set_cons_zero, List.set_cons_succ, List.getElem_toArray, List.getElem_cons_succ, List.getElem_cons_zero])
            refine wpAnyH_take (i := 15) (v := ?_) rfl (by kernel_rfl) (by kernel_rfl) (by kernel_rfl) (fun _ _ _ h => h) (Or.inl ⟨by rfl, ?_⟩) (by assumption) ?_
            rotate_left
            · intro w' hSw; (try dsimp only at hSw); go_simp; (try with_reducible rfl)
            (try simp only [Act.put, List.setIfInBounds_toArray, List.set_cons_zero, List.set_cons_succ, List.getElem_toArray, List.getElem_cons_succ, List.getElem_cons_zero])
            refine wpAnyH_done (by kernel_rfl) ?_ _
            have i0 := KX9.c0
            have i1 := KX9.c1
            have i2 := KX9.c2
            have i3 := KX9.lt
            go_wp2_with fail
            refine wp_region_held_drew (S := (fun w' => w'.cell? ⟨w.heap.size + 1, 0, none⟩ = some (.int .i64 m') ∧ w'.cell? ⟨w.heap.size + 1, 1, none⟩ = some (.int .i64 c') ∧ w'.cell? ⟨w.heap.size + 1, 2, none⟩ = some (.int .i64 bd))) (by kernel_rfl) ?_ (fun hHeld => ?_)
            · exact ⟨i0, i1, i2⟩
            refine wpAnyH_take (i := 0) (v := ?_) rfl (by kernel_rfl) (by kernel_rfl) (by kernel_rfl) (fun _ _ _ h => h) (Or.inl ⟨by rfl, ?_⟩) (by assumption) ?_
            rotate_left
            · intro w' hSw; (try dsimp only at hSw); go_simp; (try with_reducible rfl)
            (try simp only [Act.put, List.setIfInBounds_toArray, List.set_cons_zero, List.set_cons_succ, List.getElem_toArray, List.getElem_cons_succ, List.getElem_cons_zero])
            refine wpAnyH_take (i := 1) (v := ?_) rfl (by kernel_rfl) (by kernel_rfl) (by kernel_rfl) (fun _ _ _ h => h) (Or.inl ⟨by rfl, ?_⟩) (by assumption) ?_
            rotate_left
            · intro w' hSw; (try dsimp only at hSw); go_simp; (try with_reducible rfl)
            (try simp only [Act.put, List.setIfInBounds_toArray, List.set_cons_zero, List.set_cons_succ, List.getElem_toArray, List.getElem_cons_succ, List.getElem_cons_zero])
            refine wpAnyH_take (i := 2) (v := ?_) rfl (by kernel_rfl) (by kernel_rfl) (by kernel_rfl) (fun _ _ _ h => h) (Or.inl ⟨by rfl, ?_⟩) (by assumption) ?_
            rotate_left
            · intro w' hSw; (try dsimp only at hSw); go_simp; (try with_reducible rfl)
            (try simp only [Act.put, List.setIfInBounds_toArray, List.set_cons_zero, List.set_cons_succ, List.getElem_toArray, List.getElem_cons_succ, List.getElem_cons_zero])
            refine wpAnyH_take (i := 3) (v := ?_) rfl (by kernel_rfl) (by kernel_rfl) (by kernel_rfl) (fun _ _ _ h => h) (Or.inl ⟨by rfl, ?_⟩) (by assumption) ?_
            rotate_left
            · intro w' hSw; (try dsimp only at hSw); go_simp; (try with_reducible rfl)
            (try simp only [Act.put, List.setIfInBounds_toArray, List.set_cons_zero, List.set_cons_succ, List.getElem_toArray, List.getElem_cons_succ, List.getElem_cons_zero])
            refine wpAnyH_take (i := 5) (v := ?_) rfl (by kernel_rfl) (by kernel_rfl) (by kernel_rfl) (fun _ _ _ h => h) (Or.inl ⟨by rfl, ?_⟩) (by assumption) ?_
            rotate_left
            · intro w' hSw; (try dsimp only at hSw); go_simp; (try with_reducible rfl)
            (try simp only [Act.put, List.setIfInBounds_toArray, List.set_cons_zero, List.set_cons_succ, List.getElem_toArray, List.getElem_cons_succ, List.getElem_cons_zero])
            refine wpAnyH_take (i := 6) (v := ?_) rfl (by kernel_rfl) (by kernel_rfl) (by kernel_rfl) (fun _ _ _ h => h) (Or.inl ⟨by rfl, ?_⟩) (by assumption) ?_
            rotate_left
            · intro w' hSw; (try dsimp only at hSw); go_simp; (try with_reducible rfl)
            (try simp only [Act.put, List.setIfInBounds_toArray, List.set_cons_zero, List.set_cons_succ, List.getElem_toArray, List.getElem_cons_succ, List.getElem_cons_zero])
            refine wpAnyH_take (i := 7) (v := ?_) rfl (by kernel_rfl) (by kernel_rfl) (by kernel_rfl) (fun _ _ _ h => h) (Or.inl ⟨by rfl, ?_⟩) (by assumption) ?_
            rotate_left
            · intro w' hSw; (try dsimp only at hSw); go_simp; (try with_reducible rfl)
            (try simp only [Act.put, List.setIfInBounds_toArray, List.set_cons_zero, List.set_cons_succ, List.getElem_toArray, List.getElem_cons_succ, List.getElem_cons_zero])
            refine wpAnyH_take (i := 8) (v := ?_) rfl (by kernel_rfl) (by kernel_rfl) (by kernel_rfl) (fun _ _ _ h => h) (Or.inl ⟨by rfl, ?_⟩) (by assumption) ?_
            rotate_left
            · intro w' hSw; (try dsimp only at hSw); go_simp; (try with_reducible rfl)
            (try simp only [Act.put, List.setIfInBounds_toArray, List.set_cons_zero, List.set_cons_succ, List.getElem_toArray, List.getElem_cons_succ, List.getElem_cons_zero])
            refine wpAnyH_ready (rs := [4]) (by kernel_rfl) (by simp) ?_
            refine AllReadyH.cons rfl (fun K hK => ?_) AllReadyH.nil
            go_simp
            (go_at_call 23; refine (hlc_last _ m' c' bd _ (by first | exact KV9 | exact KV9.drew)).mono ?_; rintro e w11 ⟨rfl, hb11⟩; have KX11 : Ints3 w11 (w.heap.size + 1) m' c' bd := (KX9.drew).below hb11 KX9.lt; have KV11 : Ints3 w11 w.heap.size m' c' bd := (KV9.drew).below hb11 KV9.lt; have HB11 : Below w.heap.size w w11 := Below.trans (show Below w.heap.size w _ from (by (repeat' (first | (with_reducible exact Below.refl _ _) | (with_reducible assumption) | (with_reducible refine Below.trans ?_ (Below.mono (by with_reducible assumption) ?_)) | (with_reducible refine Below.alloc ?_ ?_ _) | (with_reducible refine Below.setCell ?_ ?_ _) | (with_reducible refine below_drewN ?_ _) | (with_reducible refine Below.drew ?_) | go_size)))) (hb11.mono (Below.size (show Below w.heap.size w _ from (by (repeat' (first | (with_reducible exact Below.refl _ _) | (with_reducible assumption) | (with_reducible refine Below.trans ?_ (Below.mono (by with_reducible assumption) ?_)) | (with_reducible refine Below.alloc ?_ ?_ _) | (with_reducible refine Below.setCell ?_ ?_ _) | (with_reducible refine below_drewN ?_ _) | (with_reducible refine Below.drew ?_) | go_size)))))))
            (try dsimp only)
            refine hK.out _ _ ?_ (fun hHeld => ?_)
            · exact ⟨KX11.c0, KX11.c1, KX11.c2⟩
            clear hK K
            (try simp only [Act.put, List.setIfInBounds_toArray, List.set_cons_zero, List.set_cons_succ, List.getElem_toArray, List.getElem_cons_succ, List.getElem_cons_zero])
            refine wpAnyH_take (i := 9) (v := ?_) rfl (by kernel_rfl) (by kernel_rfl) (by kernel_rfl) (fun _ _ _ h => h) (Or.inl ⟨by rfl, ?_⟩) (by assumption) ?_
            rotate_left
            · intro w' hSw; (try dsimp only at hSw); go_simp; (try with_reducible rfl)
            (try simp only [Act.put, List.setIfInBounds_toArray, List.set_cons_zero, List.set_cons_succ, List.getElem_toArray, List.getElem_cons_succ, List.getElem_cons_zero])
            refine wpAnyH_take (i := 10) (v := ?_) rfl (by kernel_rfl) (by kernel_rfl) (by kernel_rfl) (fun _ _ _ h => h) (Or.inl ⟨by rfl, ?_⟩) (by assumption) ?_
            rotate_left
            · intro w' hSw; (try dsimp only at hSw); go_simp; (try with_reducible rfl)
            (try simp only [Act.put, List.setIfInBounds_toArray, List.set_cons_zero, List.set_cons_succ, List.getElem_toArray, List.getElem_cons_succ, List.getElem_cons_zero])
            refine wpAnyH_take (i := 11) (v := ?_) rfl (by kernel_rfl) (by kernel_rfl) (by kernel_rfl) (fun _ _ _ h => h) (Or.inl ⟨by rfl, ?_⟩) (by assumption) ?_
            rotate_left
            · intro w' hSw; (try dsimp only at hSw); go_simp; (try with_reducible rfl)
            (try simp only [Act.put, List.setIfInBounds_toArray, List.set_cons_zero, List.set_cons_succ, List.getElem_toArray, List.getElem_cons_succ, List.getElem_cons_zero])
            refine wpAnyH_take (i := 12) (v := ?_) rfl (by kernel_rfl) (by kernel_rfl) (by kernel_rfl) (fun _ _ _ h => h) (Or.inl ⟨by rfl, ?_⟩) (by assumption) ?_
            rotate_left
            · intro w' hSw; (try dsimp only at hSw); go_simp; (try with_reducible rfl)
            (try simp only [Act.put, List.setIfInBounds_toArray, List.set_cons_zero, List.set_cons_succ, List.getElem_toArray, List.getElem_cons_succ, List.getElem_cons_zero])
            refine wpAnyH_take (i := 14) (v := ?_) rfl (by kernel_rfl) (by kernel_rfl) (by kernel_rfl) (fun _ _ _ h => h) (Or.inl ⟨by rfl, ?_⟩) (by assumption) ?_
            rotate_left
            · intro w' hSw; (try dsimp only at hSw); go_simp; (try with_reducible rfl)
            (try simp only [Act.put, List.setIfInBounds_toArray, List.set_cons_zero, List.set_cons_succ, List.getElem_toArray, List.getElem_cons_succ, List.getElem_cons_zero])
            refine wpAnyH_take (i := 15) (v := ?_) rfl (by kernel_rfl) (by kernel_rfl) (by kernel_rfl) (fun _ _ _ h => h) (Or.inl ⟨by rfl, ?_⟩) (by assumption) ?_
            rotate_left
            · intro w' hSw; (try dsimp only at hSw); go_simp; (try with_reducible rfl)
            (try simp only [Act.put, List.setIfInBounds_toArray, List.set_cons_zero, List.set_cons_succ, List.getElem_toArray, List.getElem_cons_succ, List.getElem_cons_zero])
            refine wpAnyH_take (i := 16) (v := ?_) rfl (by kernel_rfl) (by kernel_rfl) (by kernel_rfl) (fun _ _ _ h => h) (Or.inl ⟨by rfl, ?_⟩) (by assumption) ?_
            rotate_left
            · intro w' hSw; (try dsimp only at hSw); go_simp; (try with_reducible rfl)
            (try simp only [Act.put, List.setIfInBounds_toArray, List.set_cons_zero, List.set_cons_succ, List.getElem_toArray, List.getElem_cons_succ, List.getElem_cons_zero])
            refine wpAnyH_take (i := 17) (v := ?_) rfl (by kernel_rfl) (by kernel_rfl) (by kernel_rfl) (fun _ _ _ h => h) (Or.inl ⟨by rfl, ?_⟩) (by assumption) ?_
            rotate_left
            · intro w' hSw; (try dsimp only at hSw); go_simp; (try with_reducible rfl)
            (try simp only [Act.put, List.setIfInBounds_toArray, List.set_cons_zero, List.set_cons_succ, List.getElem_toArray, List.getElem_cons_succ, List.getElem_cons_zero])
            refine wpAnyH_ready (rs := [13]) (by kernel_rfl) (by simp) ?_
            refine AllReadyH.cons rfl (fun K hK => ?_) AllReadyH.nil
            go_simp
            (go_at_call 24; refine (hlc_bound _ m' c' bd _ KV11).mono ?_; rintro e w' ⟨rfl, rfl⟩)
            (try dsimp only)
            refine hK.out _ _ ?_ (fun hHeld => ?_)
            · exact ⟨KX11.c0, KX11.c1, KX11.c2⟩
            clear hK K
            (try simp only [Act.put, List.setIfInBounds_toArray, List.set_cons_zero, List.set_cons_succ, List.getElem_toArray, List.getElem_cons_succ, List.getElem_cons_zero])
            refine wpAnyH_take (i := 18) (v := ?_) rfl (by kernel_rfl) (by kernel_rfl) (by kernel_rfl) (fun _ _ _ h => h) (Or.inl ⟨by rfl, ?_⟩) (by assumption) ?_
            rotate_left
            · intro w' hSw; (try dsimp only at hSw); go_simp; (try with_reducible rfl)
            (try simp only [Act.put, List.setIfInBounds_toArray, List.set_cons_zero, List.set_cons_succ, List.getElem_toArray, List.getElem_cons_succ, List.getElem_cons_zero])
            refine wpAnyH_take (i := 19) (v := ?_) rfl (by kernel_rfl) (by kernel_rfl) (by kernel_rfl) (fun _ _ _ h => h) (Or.inl ⟨by rfl, ?_⟩) (by assumption) ?_
            rotate_left
            · intro w' hSw; (try dsimp only at hSw); go_simp; (try with_reducible rfl)
            (try simp only [Act.put, List.setIfInBounds_toArray, List.set_cons_zero, List.set_cons_succ, List.getElem_toArray, List.getElem_cons_succ, List.getElem_cons_zero])
            refine wpAnyH_done (by kernel_rfl) ?_ _
            clear i0 i1 i2 i3 hb11
            go_wp2
            go_roundw
            case rel => exact ⟨k + 1, m', c', bd, by omega, by omega, by go_num, hs', hbd', KV11, KX11, HB11⟩
            case measure => simp [intOf]; omega
        ·
          go_simp
          (try dsimp only)
          refine hK.out _ _ ?_ (fun hHeld => ?_)
          · exact ⟨(World.cell?_alloc_past (.cells #[.int .i64 x, .int .i64 y] 32) wr.heap.size 1 lla).trans q1a, (World.cell?_alloc_past (.cells #[.int .i64 x, .int .i64 y] 32) wr.heap.size 2 lla).trans q2a, (World.cell?_alloc_past (.cells #[.int .i64 x, .int .i64 y] 32) wr.heap.size 3 lla).trans q3a⟩
          clear hK K
          (try simp only [Act.put, List.setIfInBounds_toArray, List.set_cons_zero, List.set_cons_succ, List.getElem_toArray, List.getElem_cons_succ, List.getElem_cons_zero])
          have KVb : Ints3 (Wa.alloc (.cells #[.int .i64 x, .int .i64 y] 32)).drew w.heap.size _ _ _ := (KVa.alloc (.cells #[.int .i64 x, .int .i64 y] 32)).drew
          have KXb : Ints3 (Wa.alloc (.cells #[.int .i64 x, .int .i64 y] 32)).drew (w.heap.size + 1) m c bd := (KXa.alloc (.cells #[.int .i64 x, .int .i64 y] 32)).drew
          have HB0b : Below w.heap.size w (Wa.alloc (.cells #[.int .i64 x, .int .i64 y] 32)).drew := (HB0a.alloc HB0a.size (.cells #[.int .i64 x, .int .i64 y] 32)).drew
          have fl20 : FlatAt (Wa.alloc (.cells #[.int .i64 x, .int .i64 y] 32)) (some ⟨Wa.heap.size, 0, none⟩) 2 1 (z2 x y) := flat1 (new_cell Wa rfl _ _ 0) (new_cell Wa rfl _ _ 1) bx by' (by simp)
          have fl2 : FlatAt (Wa.alloc (.cells #[.int .i64 x, .int .i64 y] 32)).drew (some ⟨Wa.heap.size, 0, none⟩) 2 1 (z2 x y) := fl20
          have q1b : World.cell? (Wa.alloc (.cells #[.int .i64 x, .int .i64 y] 32)).drew ⟨wr.heap.size, 1, none⟩ = _ := (World.cell?_alloc_past (.cells #[.int .i64 x, .int .i64 y] 32) wr.heap.size 1 lla).trans q1a
          have q2b : World.cell? (Wa.alloc (.cells #[.int .i64 x, .int .i64 y] 32)).drew ⟨wr.heap.size, 2, none⟩ = _ := (World.cell?_alloc_past (.cells #[.int .i64 x, .int .i64 y] 32) wr.heap.size 2 lla).trans q2a
          have q3b : World.cell? (Wa.alloc (.cells #[.int .i64 x, .int .i64 y] 32)).drew ⟨wr.heap.size, 3, none⟩ = _ := (World.cell?_alloc_past (.cells #[.int .i64 x, .int .i64 y] 32) wr.heap.size 3 lla).trans q3a
          have llb : wr.heap.size < (Wa.alloc (.cells #[.int .i64 x, .int .i64 y] 32)).drew.heap.size := by simp; omega
          have nsb : wr.heap.size < Wa.heap.size := lla
          clear fl20
          generalize hWb : (Wa.alloc (.cells #[.int .i64 x, .int .i64 y] 32)).drew = Wb at *
          have HWb := Lib.hid hWb
          clear hWb
          refine wpAnyH_ready (rs := [5]) (by kernel_rfl) (by simp) ?_
          refine AllReadyH.cons rfl (fun K hK => ?_) (AllReadyH.nil)
          go_simp
          (try dsimp only)
          refine hK.out _ _ ?_ (fun hHeld => ?_)
          · exact ⟨(World.cell?_alloc_past (.cells #[.int .i64 x, .int .i64 y] 32) wr.heap.size 1 llb).trans q1b, (World.cell?_alloc_past (.cells #[.int .i64 x, .int .i64 y] 32) wr.heap.size 2 llb).trans q2b, (World.cell?_alloc_past (.cells #[.int .i64 x, .int .i64 y] 32) wr.heap.size 3 llb).trans q3b⟩
          clear hK K
          (try simp only [Act.put, List.setIfInBounds_toArray, List.set_cons_zero, List.set_cons_succ, List.getElem_toArray, List.getElem_cons_succ, List.getElem_cons_zero])
          have KVc : Ints3 (Wb.alloc (.cells #[.int .i64 x, .int .i64 y] 32)) w.heap.size _ _ _ := (KVb.alloc (.cells #[.int .i64 x, .int .i64 y] 32))
          have KXc : Ints3 (Wb.alloc (.cells #[.int .i64 x, .int .i64 y] 32)) (w.heap.size + 1) m c bd := (KXb.alloc (.cells #[.int .i64 x, .int .i64 y] 32))
          have HB0c : Below w.heap.size w (Wb.alloc (.cells #[.int .i64 x, .int .i64 y] 32)) := (HB0b.alloc HB0b.size (.cells #[.int .i64 x, .int .i64 y] 32))
          have fl10 : FlatAt (Wb.alloc (.cells #[.int .i64 x, .int .i64 y] 32)) (some ⟨Wb.heap.size, 0, none⟩) 2 1 (z2 x y) := flat1 (new_cell Wb rfl _ _ 0) (new_cell Wb rfl _ _ 1) bx by' (by simp)
          have fl1 : FlatAt (Wb.alloc (.cells #[.int .i64 x, .int .i64 y] 32)) (some ⟨Wb.heap.size, 0, none⟩) 2 1 (z2 x y) := fl10
          have q1c : World.cell? (Wb.alloc (.cells #[.int .i64 x, .int .i64 y] 32)) ⟨wr.heap.size, 1, none⟩ = _ := (World.cell?_alloc_past (.cells #[.int .i64 x, .int .i64 y] 32) wr.heap.size 1 llb).trans q1b
          have q2c : World.cell? (Wb.alloc (.cells #[.int .i64 x, .int .i64 y] 32)) ⟨wr.heap.size, 2, none⟩ = _ := (World.cell?_alloc_past (.cells #[.int .i64 x, .int .i64 y] 32) wr.heap.size 2 llb).trans q2b
          have q3c : World.cell? (Wb.alloc (.cells #[.int .i64 x, .int .i64 y] 32)) ⟨wr.heap.size, 3, none⟩ = _ := (World.cell?_alloc_past (.cells #[.int .i64 x, .int .i64 y] 32) wr.heap.size 3 llb).trans q3b
          have llc : wr.heap.size < (Wb.alloc (.cells #[.int .i64 x, .int .i64 y] 32)).heap.size := by simp; omega
          have nsc : wr.heap.size < Wb.heap.size := llb
          clear fl10
          generalize hWc : (Wb.alloc (.cells #[.int .i64 x, .int .i64 y] 32)) = Wc at *
          have HWc := Lib.hid hWc
          clear hWc
          have fl2' : FlatAt Wc _ 2 1 (z2 x y) := HWc.out ▸ fl2.alloc (.cells #[.int .i64 x, .int .i64 y] 32)
          refine wpAnyH_ready (rs := [6]) (by kernel_rfl) (by simp) ?_
          refine AllReadyH.cons rfl (fun K hK => ?_) (AllReadyH.nil)
          go_simp
          (go_at_call 19; refine (HS1.out _ _ _ _ KVc fl1 (by omega)).mono ?_; rintro e Wd ⟨rfl, ho, KVd⟩)
          (try dsimp only)
          have KXd := KXc.only ho (by omega)
          have HB0d : Below w.heap.size w Wd := HB0c.trans (ho.below (Nat.le_refl _) HB0c.size)
          have q1d := (ho.cell wr.heap.size 1 llc nab).trans q1c
          have q2d := (ho.cell wr.heap.size 2 llc nab).trans q2c
          have q3d := (ho.cell wr.heap.size 3 llc nab).trans q3c
          have lld : wr.heap.size < Wd.heap.size := Nat.lt_of_lt_of_le llc ho.size
          refine hK.out _ _ ?_ (fun hHeld => ?_)
          · exact ⟨q1d, q2d, q3d⟩
          clear hK K
          (try simp only [Act.put, List.setIfInBounds_toArray, List.set_cons_zero, List.set_cons_succ, List.getElem_toArray, List.getElem_cons_succ, List.getElem_cons_zero])
          have fl2'' := fl2'.only ho (by omega)
          refine wpAnyH_ready (rs := [13]) (by kernel_rfl) (by simp) ?_
          refine AllReadyH.cons rfl (fun K hK => ?_) (AllReadyH.nil)
          go_simp
          (go_at_call 20; refine (HS2.out _ _ _ _ KXd fl2'').mono ?_; rintro e w9 ⟨rfl, ho9, KX9⟩)
          (try dsimp only)
          have KV9 := KVd.only ho9 (by omega)
          have HB9 : Below w.heap.size w w9 := HB0d.trans (ho9.below (by omega) HB0d.size)
          refine hK.out _ _ ?_ (fun hHeld => ?_)
          · exact ⟨(ho9.cell wr.heap.size 1 lld nac).trans q1d, (ho9.cell wr.heap.size 2 lld nac).trans q2d, (ho9.cell wr.heap.size 3 lld nac).trans q3d⟩
          clear hK K
          (try simp only [Act.put, List.setIfInBounds_toArray, List.set_cons_zero, List.set_cons_succ, List.getElem_toArray, List.getElem_cons_succ, List.getElem_cons_zero])
          refine wpAnyH_take (i := 14) (v := ?_) rfl (by kernel_rfl) (by kernel_rfl) (by kernel_rfl) (fun _ _ _ h => h) (Or.inl ⟨by rfl, ?_⟩) (by assumption) ?_
          rotate_left
          · intro w' hSw; (try dsimp only at hSw); go_simp; (try with_reducible rfl)
          (try simp only [Act.put, List.setIfInBounds_toArray, List.set_cons_zero, List.set_cons_succ, List.getElem_toArray, List.getElem_cons_succ, List.getElem_cons_zero])
          refine wpAnyH_take (i := 15) (v := ?_) rfl (by kernel_rfl) (by kernel_rfl) (by kernel_rfl) (fun _ _ _ h => h) (Or.inl ⟨by rfl, ?_⟩) (by assumption) ?_
          rotate_left
          · intro w' hSw; (try dsimp only at hSw); go_simp; (try with_reducible rfl)
          (try simp only [Act.put, List.setIfInBounds_toArray, List.set_cons_zero, List.set_cons_succ, List.getElem_toArray, List.getElem_cons_succ, List.getElem_cons_zero])
          refine wpAnyH_done (by kernel_rfl) ?_ _
          have i0 := KX9.c0
          have i1 := KX9.c1
          have i2 := KX9.c2
          have i3 := KX9.lt
          go_wp2_with fail
          refine wp_region_held_drew (S := (fun w' => w'.cell? ⟨w.heap.size + 1, 0, none⟩ = some (.int .i64 m') ∧ w'.cell? ⟨w.heap.size + 1, 1, none⟩ = some (.int .i64 c') ∧ w'.cell? ⟨w.heap.size + 1, 2, none⟩ = some (.int .i64 bd))) (by kernel_rfl) ?_ (fun hHeld => ?_)
          · exact ⟨i0, i1, i2⟩
          refine wpAnyH_take (i := 0) (v := ?_) rfl (by kernel_rfl) (by kernel_rfl) (by kernel_rfl) (fun _ _ _ h => h) (Or.inl ⟨by rfl, ?_⟩) (by assumption) ?_
          rotate_left
          · intro w' hSw; (try dsimp only at hSw); go_simp; (try with_reducible rfl)
          (try simp only [Act.put, List.setIfInBounds_toArray, List.set_cons_zero, List.set_cons_succ, List.getElem_toArray, List.getElem_cons_succ, List.getElem_cons_zero])
          refine wpAnyH_take (i := 1) (v := ?_) rfl (by kernel_rfl) (by kernel_rfl) (by kernel_rfl) (fun _ _ _ h => h) (Or.inl ⟨by rfl, ?_⟩) (by assumption) ?_
          rotate_left
          · intro w' hSw; (try dsimp only at hSw); go_simp; (try with_reducible rfl)
          (try simp only [Act.put, List.setIfInBounds_toArray, List.set_cons_zero, List.set_cons_succ, List.getElem_toArray, List.getElem_cons_succ, List.getElem_cons_zero])
          refine wpAnyH_take (i := 2) (v := ?_) rfl (by kernel_rfl) (by kernel_rfl) (by kernel_rfl) (fun _ _ _ h => h) (Or.inl ⟨by rfl, ?_⟩) (by assumption) ?_
          rotate_left
          · intro w' hSw; (try dsimp only at hSw); go_simp; (try with_reducible rfl)
          (try simp only [Act.put, List.setIfInBounds_toArray, List.set_cons_zero, List.set_cons_succ, List.getElem_toArray, List.getElem_cons_succ, List.getElem_cons_zero])
          refine wpAnyH_take (i := 3) (v := ?_) rfl (by kernel_rfl) (by kernel_rfl) (by kernel_rfl) (fun _ _ _ h => h) (Or.inl ⟨by rfl, ?_⟩) (by assumption) ?_
          rotate_left
          · intro w' hSw; (try dsimp only at hSw); go_simp; (try with_reducible rfl)
          (try simp only [Act.put, List.setIfInBounds_toArray, List.set_cons_zero, List.set_cons_succ, List.getElem_toArray, List.getElem_cons_succ, List.getElem_cons_zero])
          refine wpAnyH_take (i := 5) (v := ?_) rfl (by kernel_rfl) (by kernel_rfl) (by kernel_rfl) (fun _ _ _ h => h) (Or.inl ⟨by rfl, ?_⟩) (by assumption) ?_
          rotate_left
          · intro w' hSw; (try dsimp only at hSw); go_simp; (try with_reducible rfl)
          (try simp only [Act.put, List.setIfInBounds_toArray, List.set_cons_zero, List.set_cons_succ, List.getElem_toArray, List.getElem_cons_succ, List.getElem_cons_zero])
          refine wpAnyH_take (i := 6) (v := ?_) rfl (by kernel_rfl) (by kernel_rfl) (by kernel_rfl) (fun _ _ _ h => h) (Or.inl ⟨by rfl, ?_⟩) (by assumption) ?_
          rotate_left
          · intro w' hSw; (try dsimp only at hSw); go_simp; (try with_reducible rfl)
          (try simp only [Act.put, List.setIfInBounds_toArray, List.set_cons_zero, List.set_cons_succ, List.getElem_toArray, List.getElem_cons_succ, List.getElem_cons_zero])
          refine wpAnyH_take (i := 7) (v := ?_) rfl (by kernel_rfl) (by kernel_rfl) (by kernel_rfl) (fun _ _ _ h => h) (Or.inl ⟨by rfl, ?_⟩) (by assumption) ?_
          rotate_left
          · intro w' hSw; (try dsimp only at hSw); go_simp; (try with_reducible rfl)
          (try simp only [Act.put, List.setIfInBounds_toArray, List.set_cons_zero, List.set_cons_succ, List.getElem_toArray, List.getElem_cons_succ, List.getElem_cons_zero])
          refine wpAnyH_take (i := 8) (v := ?_) rfl (by kernel_rfl) (by kernel_rfl) (by kernel_rfl) (fun _ _ _ h => h) (Or.inl ⟨by rfl, ?_⟩) (by assumption) ?_
          rotate_left
          · intro w' hSw; (try dsimp only at hSw); go_simp; (try with_reducible rfl)
          (try simp only [Act.put, List.setIfInBounds_toArray, List.set_cons_zero, List.set_cons_succ, List.getElem_toArray, List.getElem_cons_succ, List.getElem_cons_zero])
          refine wpAnyH_ready (rs := [4]) (by kernel_rfl) (by simp) ?_
          refine AllReadyH.cons rfl (fun K hK => ?_) AllReadyH.nil
          go_simp
          (go_at_call 23; refine (hlc_last _ m' c' bd _ (by first | exact KV9 | exact KV9.drew)).mono ?_; rintro e w11 ⟨rfl, hb11⟩; have KX11 : Ints3 w11 (w.heap.size + 1) m' c' bd := (KX9.drew).below hb11 KX9.lt; have KV11 : Ints3 w11 w.heap.size m' c' bd := (KV9.drew).below hb11 KV9.lt; have HB11 : Below w.heap.size w w11 := Below.trans (show Below w.heap.size w _ from (by (repeat' (first | (with_reducible exact Below.refl _ _) | (with_reducible assumption) | (with_reducible refine Below.trans ?_ (Below.mono (by with_reducible assumption) ?_)) | (with_reducible refine Below.alloc ?_ ?_ _) | (with_reducible refine Below.setCell ?_ ?_ _) | (with_reducible refine below_drewN ?_ _) | (with_reducible refine Below.drew ?_) | go_size)))) (hb11.mono (Below.size (show Below w.heap.size w _ from (by (repeat' (first | (with_reducible exact Below.refl _ _) | (with_reducible assumption) | (with_reducible refine Below.trans ?_ (Below.mono (by with_reducible assumption) ?_)) | (with_reducible refine Below.alloc ?_ ?_ _) | (with_reducible refine Below.setCell ?_ ?_ _) | (with_reducible refine below_drewN ?_ _) | (with_reducible refine Below.drew ?_) | go_size)))))))
          (try dsimp only)
          refine hK.out _ _ ?_ (fun hHeld => ?_)
          · exact ⟨KX11.c0, KX11.c1, KX11.c2⟩
          clear hK K
          (try simp only [Act.put, List.setIfInBounds_toArray, List.set_cons_zero, List.set_cons_succ, List.getElem_toArray, List.getElem_cons_succ, List.getElem_cons_zero])
          refine wpAnyH_take (i := 9) (v := ?_) rfl (by kernel_rfl) (by kernel_rfl) (by kernel_rfl) (fun _ _ _ h => h) (Or.inl ⟨by rfl, ?_⟩) (by assumption) ?_
          rotate_left
          · intro w' hSw; (try dsimp only at hSw); go_simp; (try with_reducible rfl)
          (try simp only [Act.put, List.setIfInBounds_toArray, List.set_cons_zero, List.set_cons_succ, List.getElem_toArray, List.getElem_cons_succ, List.getElem_cons_zero])
          refine wpAnyH_take (i := 10) (v := ?_) rfl (by kernel_rfl) (by kernel_rfl) (by kernel_rfl) (fun _ _ _ h => h) (Or.inl ⟨by rfl, ?_⟩) (by assumption) ?_
          rotate_left
          · intro w' hSw; (try dsimp only at hSw); go_simp; (try with_reducible rfl)
          (try simp only [Act.put, List.setIfInBounds_toArray, List.set_cons_zero, List.set_cons_succ, List.getElem_toArray, List.getElem_cons_succ, List.getElem_cons_zero])
          refine wpAnyH_take (i := 11) (v := ?_) rfl (by kernel_rfl) (by kernel_rfl) (by kernel_rfl) (fun _ _ _ h => h) (Or.inl ⟨by rfl, ?_⟩) (by assumption) ?_
          rotate_left
          · intro w' hSw; (try dsimp only at hSw); go_simp; (try with_reducible rfl)
          (try simp only [Act.put, List.setIfInBounds_toArray, List.set_cons_zero, List.set_cons_succ, List.getElem_toArray, List.getElem_cons_succ, List.getElem_cons_zero])
          refine wpAnyH_take (i := 12) (v := ?_) rfl (by kernel_rfl) (by kernel_rfl) (by kernel_rfl) (fun _ _ _ h => h) (Or.inl ⟨by rfl, ?_⟩) (by assumption) ?_
          rotate_left
          · intro w' hSw; (try dsimp only at hSw); go_simp; (try with_reducible rfl)
          (try simp only [Act.put, List.setIfInBounds_toArray, List.set_cons_zero, List.set_cons_succ, List.getElem_toArray, List.getElem_cons_succ, List.getElem_cons_zero])
          refine wpAnyH_take (i := 14) (v := ?_) rfl (by kernel_rfl) (by kernel_rfl) (by kernel_rfl) (fun _ _ _ h => h) (Or.inl ⟨by rfl, ?_⟩) (by assumption) ?_
          rotate_left
          · intro w' hSw; (try dsimp only at hSw); go_simp; (try with_reducible rfl)
          (try simp only [Act.put, List.setIfInBounds_toArray, List.set_cons_zero, List.set_cons_succ, List.getElem_toArray, List.getElem_cons_succ, List.getElem_cons_zero])
          refine wpAnyH_take (i := 15) (v := ?_) rfl (by kernel_rfl) (by kernel_rfl) (by kernel_rfl) (fun _ _ _ h => h) (Or.inl ⟨by rfl, ?_⟩) (by assumption) ?_
          rotate_left
          · intro w' hSw; (try dsimp only at hSw); go_simp; (try with_reducible rfl)
          (try simp only [Act.put, List.setIfInBounds_toArray, List.set_cons_zero, List.set_cons_succ, List.getElem_toArray, List.getElem_cons_succ, List.getElem_cons_zero])
          refine wpAnyH_take (i := 16) (v := ?_) rfl (by kernel_rfl) (by kernel_rfl) (by kernel_rfl) (fun _ _ _ h => h) (Or.inl ⟨by rfl, ?_⟩) (by assumption) ?_
          rotate_left
          · intro w' hSw; (try dsimp only at hSw); go_simp; (try with_reducible rfl)
          (try simp only [Act.put, List.setIfInBounds_toArray, List.set_cons_zero, List.set_cons_succ, List.getElem_toArray, List.getElem_cons_succ, List.getElem_cons_zero])
          refine wpAnyH_take (i := 17) (v := ?_) rfl (by kernel_rfl) (by kernel_rfl) (by kernel_rfl) (fun _ _ _ h => h) (Or.inl ⟨by rfl, ?_⟩) (by assumption) ?_
          rotate_left
          · intro w' hSw; (try dsimp only at hSw); go_simp; (try with_reducible rfl)
          (try simp only [Act.put, List.setIfInBounds_toArray, List.set_cons_zero, List.set_cons_succ, List.getElem_toArray, List.getElem_cons_succ, List.getElem_cons_zero])
          refine wpAnyH_ready (rs := [13]) (by kernel_rfl) (by simp) ?_
          refine AllReadyH.cons rfl (fun K hK => ?_) AllReadyH.nil
          go_simp
          (go_at_call 24; refine (hlc_bound _ m' c' bd _ KV11).mono ?_; rintro e w' ⟨rfl, rfl⟩)
          (try dsimp only)
          refine hK.out _ _ ?_ (fun hHeld => ?_)
          · exact ⟨KX11.c0, KX11.c1, KX11.c2⟩
          clear hK K
          (try simp only [Act.put, List.setIfInBounds_toArray, List.set_cons_zero, List.set_cons_succ, List.getElem_toArray, List.getElem_cons_succ, List.getElem_cons_zero])
          refine wpAnyH_take (i := 18) (v := ?_) rfl (by kernel_rfl) (by kernel_rfl) (by kernel_rfl) (fun _ _ _ h => h) (Or.inl ⟨by rfl, ?_⟩) (by assumption) ?_
          rotate_left
          · intro w' hSw; (try dsimp only at hSw); go_simp; (try with_reducible rfl)
          (try simp only [Act.put, List.setIfInBounds_toArray, List.set_cons_zero, List.set_cons_succ, List.getElem_toArray, List.getElem_cons_succ, List.getElem_cons_zero])
          refine wpAnyH_take (i := 19) (v := ?_) rfl (by kernel_rfl) (by kernel_rfl) (by kernel_rfl) (fun _ _ _ h => h) (Or.inl ⟨by rfl, ?_⟩) (by assumption) ?_
          rotate_left
          · intro w' hSw; (try dsimp only at hSw); go_simp; (try with_reducible rfl)
          (try simp only [Act.put, List.setIfInBounds_toArray, List.set_cons_zero, List.set_cons_succ, List.getElem_toArray, List.getElem_cons_succ, List.getElem_cons_zero])
          refine wpAnyH_done (by kernel_rfl) ?_ _
          clear i0 i1 i2 i3 hb11
          go_wp2
          go_roundw
          case rel => exact ⟨k + 1, m', c', bd, by omega, by omega, by go_num, hs', hbd', KV11, KX11, HB11⟩
          case measure => simp [intOf]; omega
      · subst hkd
        obtain ⟨r, bd', hbd', S1, S2⟩ := raise_both m c bd nn hbd
        have hs' := hs
        have HS1 := Lib.hid S1
        have HS2 := Lib.hid S2
        clear S1 S2
        go_wp2_with fail
        refine wp_region_held_drew (S := (fun w' => w'.cell? ⟨wr.heap.size, 1, none⟩ = some (.int .i64 nn))) (by kernel_rfl) ?_ (fun hHeld => ?_)
        · exact q1
        refine wpAnyH_take (i := 0) (v := ?_) rfl (by kernel_rfl) (by kernel_rfl) (by kernel_rfl) (fun _ _ _ h => h) (Or.inl ⟨by rfl, ?_⟩) (by assumption) ?_
        rotate_left
        · intro w' hSw; (try dsimp only at hSw); go_simp; (try with_reducible rfl)
        (try simp only [Act.put, List.setIfInBounds_toArray, List.set_cons_zero, List.set_cons_succ, List.getElem_toArray, List.getElem_cons_succ, List.getElem_cons_zero])
        refine wpAnyH_take (i := 1) (v := ?_) rfl (by kernel_rfl) (by kernel_rfl) (by kernel_rfl) (fun _ _ _ h => h) (Or.inl ⟨by rfl, ?_⟩) (by assumption) ?_
        rotate_left
        · intro w' hSw; (try dsimp only at hSw); go_simp; (try with_reducible rfl)
        (try simp only [Act.put, List.setIfInBounds_toArray, List.set_cons_zero, List.set_cons_succ, List.getElem_toArray, List.getElem_cons_succ, List.getElem_cons_zero])
        refine wpAnyH_take (i := 2) (v := ?_) rfl (by kernel_rfl) (by kernel_rfl) (by kernel_rfl) (fun _ _ _ h => h) (Or.inl ⟨by rfl, ?_⟩) (by assumption) ?_
        rotate_left
        · intro w' hSw; (try dsimp only at hSw); go_simp; (try with_reducible rfl)
        (try simp only [Act.put, List.setIfInBounds_toArray, List.set_cons_zero, List.set_cons_succ, List.getElem_toArray, List.getElem_cons_succ, List.getElem_cons_zero])
        refine wpAnyH_take (i := 4) (v := ?_) rfl (by kernel_rfl) (by kernel_rfl) (by kernel_rfl) (fun _ _ _ h => h) (Or.inl ⟨by rfl, ?_⟩) (by assumption) ?_
        rotate_left
        · intro w' hSw; (try dsimp only at hSw); go_simp; (try with_reducible rfl)
        (try simp only [Act.put, List.setIfInBounds_toArray, List.set_cons_zero, List.set_cons_succ, List.getElem_toArray, List.getElem_cons_succ, List.getElem_cons_zero])
        refine wpAnyH_take (i := 5) (v := ?_) rfl (by kernel_rfl) (by kernel_rfl) (by kernel_rfl) (fun _ _ _ h => h) (Or.inl ⟨by rfl, ?_⟩) (by assumption) ?_
        rotate_left
        · intro w' hSw; (try dsimp only at hSw); go_simp; (try with_reducible rfl)
        (try simp only [Act.put, List.setIfInBounds_toArray, List.set_cons_zero, List.set_cons_succ, List.getElem_toArray, List.getElem_cons_succ, List.getElem_cons_zero])
        refine wpAnyH_take (i := 6) (v := ?_) rfl (by kernel_rfl) (by kernel_rfl) (by kernel_rfl) (fun _ _ _ h => h) (Or.inl ⟨by rfl, ?_⟩) (by assumption) ?_
        rotate_left
        · intro w' hSw; (try dsimp only at hSw); go_simp; (try with_reducible rfl)
        (try simp only [Act.put, List.setIfInBounds_toArray, List.set_cons_zero, List.set_cons_succ, List.getElem_toArray, List.getElem_cons_succ, List.getElem_cons_zero])
        refine wpAnyH_ready (rs := [3]) (by kernel_rfl) (by simp) ?_
        refine AllReadyH.cons rfl (fun K hK => ?_) AllReadyH.nil
        go_simp
        (go_at_call 21; refine (HS1.out _ _ (by first | exact HKV.out | exact HKV.out.drew)).mono ?_; rintro e w5 ⟨rfl, ho5, KV5⟩; have KX5 : Ints3 w5 (w.heap.size + 1) m c bd := (HKX.out.drew).only ho5 (by omega); have HB5 : Below w.heap.size w w5 := Below.trans (HBa.out.drew) (ho5.below (Nat.le_refl _) HBa.out.size); have c1 := (ho5.cell wr.heap.size 1 la nab).trans q1; have l5 : wr.heap.size < w5.heap.size := Nat.lt_of_lt_of_le la ho5.size)
        (try dsimp only)
        refine hK.out _ _ ?_ (fun hHeld => ?_)
        · exact c1
        clear hK K
        (try simp only [Act.put, List.setIfInBounds_toArray, List.set_cons_zero, List.set_cons_succ, List.getElem_toArray, List.getElem_cons_succ, List.getElem_cons_zero])
        refine wpAnyH_ready (rs := [7]) (by kernel_rfl) (by simp) ?_
        refine AllReadyH.cons rfl (fun K hK => ?_) AllReadyH.nil
        go_simp
        (go_at_call 22; refine (HS2.out _ _ KX5).mono ?_; rintro e w9 ⟨rfl, ho9, KX9⟩; have KV9 := KV5.only ho9 (by omega); have HB9 : Below w.heap.size w w9 := HB5.trans (ho9.below (by omega) HB5.size); have c2 := (ho9.cell wr.heap.size 1 l5 nac).trans c1)
        (try dsimp only)
        refine hK.out _ _ ?_ (fun hHeld => ?_)
        · exact c2
        clear hK K
        (try simp only [Act.put, List.setIfInBounds_toArray, List.set_cons_zero, List.set_cons_succ, List.getElem_toArray, List.getElem_cons_succ, List.getElem_cons_zero])
        refine wpAnyH_take (i := 8) (v := ?_) rfl (by kernel_rfl) (by kernel_rfl) (by kernel_rfl) (fun _ _ _ h => h) (Or.inl ⟨by rfl, ?_⟩) (by assumption) ?_
        rotate_left
        · intro w' hSw; (try dsimp only at hSw); go_simp; (try with_reducible rfl)
        (try simp only [Act.put, List.setIfInBounds_toArray, List.set_cons_zero, List.set_cons_succ, List.getElem_toArray, List.getElem_cons_succ, List.getElem_cons_zero])
        refine wpAnyH_take (i := 9) (v := ?_) rfl (by kernel_rfl) (by kernel_rfl) (by kernel_rfl) (fun _ _ _ h => h) (Or.inl ⟨by rfl, ?_⟩) (by assumption) ?_
        rotate_left
        · intro w' hSw; (try dsimp only at hSw); go_simp; (try with_reducible rfl)
        (try simp only [Act.put, List.setIfInBounds_toArray, List.set_cons_zero, List.set_cons_succ, List.getElem_toArray, List.getElem_cons_succ, List.getElem_cons_zero])
        refine wpAnyH_done (by kernel_rfl) ?_ _
        have i0 := KX9.c0
        have i1 := KX9.c1
        have i2 := KX9.c2
        have i3 := KX9.lt
        go_wp2_with fail
        refine wp_region_held_drew (S := (fun w' => w'.cell? ⟨w.heap.size + 1, 0, none⟩ = some (.int .i64 m) ∧ w'.cell? ⟨w.heap.size + 1, 1, none⟩ = some (.int .i64 c) ∧ w'.cell? ⟨w.heap.size + 1, 2, none⟩ = some (.int .i64 bd'))) (by kernel_rfl) ?_ (fun hHeld => ?_)
        · exact ⟨i0, i1, i2⟩
        refine wpAnyH_take (i := 0) (v := ?_) rfl (by kernel_rfl) (by kernel_rfl) (by kernel_rfl) (fun _ _ _ h => h) (Or.inl ⟨by rfl, ?_⟩) (by assumption) ?_
        rotate_left
        · intro w' hSw; (try dsimp only at hSw); go_simp; (try with_reducible rfl)
        (try simp only [Act.put, List.setIfInBounds_toArray, List.set_cons_zero, List.set_cons_succ, List.getElem_toArray, List.getElem_cons_succ, List.getElem_cons_zero])
        refine wpAnyH_take (i := 1) (v := ?_) rfl (by kernel_rfl) (by kernel_rfl) (by kernel_rfl) (fun _ _ _ h => h) (Or.inl ⟨by rfl, ?_⟩) (by assumption) ?_
        rotate_left
        · intro w' hSw; (try dsimp only at hSw); go_simp; (try with_reducible rfl)
        (try simp only [Act.put, List.setIfInBounds_toArray, List.set_cons_zero, List.set_cons_succ, List.getElem_toArray, List.getElem_cons_succ, List.getElem_cons_zero])
        refine wpAnyH_take (i := 2) (v := ?_) rfl (by kernel_rfl) (by kernel_rfl) (by kernel_rfl) (fun _ _ _ h => h) (Or.inl ⟨by rfl, ?_⟩) (by assumption) ?_
        rotate_left
        · intro w' hSw; (try dsimp only at hSw); go_simp; (try with_reducible rfl)
        (try simp only [Act.put, List.setIfInBounds_toArray, List.set_cons_zero, List.set_cons_succ, List.getElem_toArray, List.getElem_cons_succ, List.getElem_cons_zero])
        refine wpAnyH_take (i := 3) (v := ?_) rfl (by kernel_rfl) (by kernel_rfl) (by kernel_rfl) (fun _ _ _ h => h) (Or.inl ⟨by rfl, ?_⟩) (by assumption) ?_
        rotate_left
        · intro w' hSw; (try dsimp only at hSw); go_simp; (try with_reducible rfl)
        (try simp only [Act.put, List.setIfInBounds_toArray, List.set_cons_zero, List.set_cons_succ, List.getElem_toArray, List.getElem_cons_succ, List.getElem_cons_zero])
        refine wpAnyH_take (i := 5) (v := ?_) rfl (by kernel_rfl) (by kernel_rfl) (by kernel_rfl) (fun _ _ _ h => h) (Or.inl ⟨by rfl, ?_⟩) (by assumption) ?_
        rotate_left
        · intro w' hSw; (try dsimp only at hSw); go_simp; (try with_reducible rfl)
        (try simp only [Act.put, List.setIfInBounds_toArray, List.set_cons_zero, List.set_cons_succ, List.getElem_toArray, List.getElem_cons_succ, List.getElem_cons_zero])
        refine wpAnyH_take (i := 6) (v := ?_) rfl (by kernel_rfl) (by kernel_rfl) (by kernel_rfl) (fun _ _ _ h => h) (Or.inl ⟨by rfl, ?_⟩) (by assumption) ?_
        rotate_left
        · intro w' hSw; (try dsimp only at hSw); go_simp; (try with_reducible rfl)
        (try simp only [Act.put, List.setIfInBounds_toArray, List.set_cons_zero, List.set_cons_succ, List.getElem_toArray, List.getElem_cons_succ, List.getElem_cons_zero])
        refine wpAnyH_take (i := 7) (v := ?_) rfl (by kernel_rfl) (by kernel_rfl) (by kernel_rfl) (fun _ _ _ h => h) (Or.inl ⟨by rfl, ?_⟩) (by assumption) ?_
        rotate_left
        · intro w' hSw; (try dsimp only at hSw); go_simp; (try with_reducible rfl)
        (try simp only [Act.put, List.setIfInBounds_toArray, List.set_cons_zero, List.set_cons_succ, List.getElem_toArray, List.getElem_cons_succ, List.getElem_cons_zero])
        refine wpAnyH_take (i := 8) (v := ?_) rfl (by kernel_rfl) (by kernel_rfl) (by kernel_rfl) (fun _ _ _ h => h) (Or.inl ⟨by rfl, ?_⟩) (by assumption) ?_
        rotate_left
        · intro w' hSw; (try dsimp only at hSw); go_simp; (try with_reducible rfl)
        (try simp only [Act.put, List.setIfInBounds_toArray, List.set_cons_zero, List.set_cons_succ, List.getElem_toArray, List.getElem_cons_succ, List.getElem_cons_zero])
        refine wpAnyH_ready (rs := [4]) (by kernel_rfl) (by simp) ?_
        refine AllReadyH.cons rfl (fun K hK => ?_) AllReadyH.nil
        go_simp
        (go_at_call 23; refine (hlc_last _ m c bd' _ (by first | exact KV9 | exact KV9.drew)).mono ?_; rintro e w11 ⟨rfl, hb11⟩; have KX11 : Ints3 w11 (w.heap.size + 1) m c bd' := (KX9.drew).below hb11 KX9.lt; have KV11 : Ints3 w11 w.heap.size m c bd' := (KV9.drew).below hb11 KV9.lt; have HB11 : Below w.heap.size w w11 := Below.trans (show Below w.heap.size w _ from (by (repeat' (first | (with_reducible exact Below.refl _ _) | (with_reducible assumption) | (with_reducible refine Below.trans ?_ (Below.mono (by with_reducible assumption) ?_)) | (with_reducible refine Below.alloc ?_ ?_ _) | (with_reducible refine Below.setCell ?_ ?_ _) | (with_reducible refine below_drewN ?_ _) | (with_reducible refine Below.drew ?_) | go_size)))) (hb11.mono (Below.size (show Below w.heap.size w _ from (by (repeat' (first | (with_reducible exact Below.refl _ _) | (with_reducible assumption) | (with_reducible refine Below.trans ?_ (Below.mono (by with_reducible assumption) ?_)) | (with_reducible refine Below.alloc ?_ ?_ _) | (with_reducible refine Below.setCell ?_ ?_ _) | (with_reducible refine below_drewN ?_ _) | (with_reducible refine Below.drew ?_) | go_size)))))))
        (try dsimp only)
        refine hK.out _ _ ?_ (fun hHeld => ?_)
        · exact ⟨KX11.c0, KX11.c1, KX11.c2⟩
        clear hK K
        (try simp only [Act.put, List.setIfInBounds_toArray, List.set_cons_zero, List.set_cons_succ, List.getElem_toArray, List.getElem_cons_succ, List.getElem_cons_zero])
        refine wpAnyH_take (i := 9) (v := ?_) rfl (by kernel_rfl) (by kernel_rfl) (by kernel_rfl) (fun _ _ _ h => h) (Or.inl ⟨by rfl, ?_⟩) (by assumption) ?_
        rotate_left
        · intro w' hSw; (try dsimp only at hSw); go_simp; (try with_reducible rfl)
        (try simp only [Act.put, List.setIfInBounds_toArray, List.set_cons_zero, List.set_cons_succ, List.getElem_toArray, List.getElem_cons_succ, List.getElem_cons_zero])
        refine wpAnyH_take (i := 10) (v := ?_) rfl (by kernel_rfl) (by kernel_rfl) (by kernel_rfl) (fun _ _ _ h => h) (Or.inl ⟨by rfl, ?_⟩) (by assumption) ?_
        rotate_left
        · intro w' hSw; (try dsimp only at hSw); go_simp; (try with_reducible rfl)
        (try simp only [Act.put, List.setIfInBounds_toArray, List.set_cons_zero, List.set_cons_succ, List.getElem_toArray, List.getElem_cons_succ, List.getElem_cons_zero])
        refine wpAnyH_take (i := 11) (v := ?_) rfl (by kernel_rfl) (by kernel_rfl) (by kernel_rfl) (fun _ _ _ h => h) (Or.inl ⟨by rfl, ?_⟩) (by assumption) ?_
        rotate_left
        · intro w' hSw; (try dsimp only at hSw); go_simp; (try with_reducible rfl)
        (try simp only [Act.put, List.setIfInBounds_toArray, List.set_cons_zero, List.set_cons_succ, List.getElem_toArray, List.getElem_cons_succ, List.getElem_cons_zero])
        refine wpAnyH_take (i := 12) (v := ?_) rfl (by kernel_rfl) (by kernel_rfl) (by kernel_rfl) (fun _ _ _ h => h) (Or.inl ⟨by rfl, ?_⟩) (by assumption) ?_
        rotate_left
        · intro w' hSw; (try dsimp only at hSw); go_simp; (try with_reducible rfl)
        (try simp only [Act.put, List.setIfInBounds_toArray, List.set_cons_zero, List.set_cons_succ, List.getElem_toArray, List.getElem_cons_succ, List.getElem_cons_zero])
        refine wpAnyH_take (i := 14) (v := ?_) rfl (by kernel_rfl) (by kernel_rfl) (by kernel_rfl) (fun _ _ _ h => h) (Or.inl ⟨by rfl, ?_⟩) (by assumption) ?_
        rotate_left
        · intro w' hSw; (try dsimp only at hSw); go_simp; (try with_reducible rfl)
        (try simp only [Act.put, List.setIfInBounds_toArray, List.set_cons_zero, List.set_cons_succ, List.getElem_toArray, List.getElem_cons_succ, List.getElem_cons_zero])
        refine wpAnyH_take (i := 15) (v := ?_) rfl (by kernel_rfl) (by kernel_rfl) (by kernel_rfl) (fun _ _ _ h => h) (Or.inl ⟨by rfl, ?_⟩) (by assumption) ?_
        rotate_left
        · intro w' hSw; (try dsimp only at hSw); go_simp; (try with_reducible rfl)
        (try simp only [Act.put, List.setIfInBounds_toArray, List.set_cons_zero, List.set_cons_succ, List.getElem_toArray, List.getElem_cons_succ, List.getElem_cons_zero])
        refine wpAnyH_take (i := 16) (v := ?_) rfl (by kernel_rfl) (by kernel_rfl) (by kernel_rfl) (fun _ _ _ h => h) (Or.inl ⟨by rfl, ?_⟩) (by assumption) ?_
        rotate_left
        · intro w' hSw; (try dsimp only at hSw); go_simp; (try with_reducible rfl)
        (try simp only [Act.put, List.setIfInBounds_toArray, List.set_cons_zero, List.set_cons_succ, List.getElem_toArray, List.getElem_cons_succ, List.getElem_cons_zero])
        refine wpAnyH_take (i := 17) (v := ?_) rfl (by kernel_rfl) (by kernel_rfl) (by kernel_rfl) (fun _ _ _ h => h) (Or.inl ⟨by rfl, ?_⟩) (by assumption) ?_
        rotate_left
        · intro w' hSw; (try dsimp only at hSw); go_simp; (try with_reducible rfl)
        (try simp only [Act.put, List.setIfInBounds_toArray, List.set_cons_zero, List.set_cons_succ, List.getElem_toArray, List.getElem_cons_succ, List.getElem_cons_zero])
        refine wpAnyH_ready (rs := [13]) (by kernel_rfl) (by simp) ?_
        refine AllReadyH.cons rfl (fun K hK => ?_) AllReadyH.nil
        go_simp
        (go_at_call 24; refine (hlc_bound _ m c bd' _ KV11).mono ?_; rintro e w' ⟨rfl, rfl⟩)
        (try dsimp only)
        refine hK.out _ _ ?_ (fun hHeld => ?_)
        · exact ⟨KX11.c0, KX11.c1, KX11.c2⟩
        clear hK K
        (try simp only [Act.put, List.setIfInBounds_toArray, List.set_cons_zero, List.set_cons_succ, List.getElem_toArray, List.getElem_cons_succ, List.getElem_cons_zero])
        refine wpAnyH_take (i := 18) (v := ?_) rfl (by kernel_rfl) (by kernel_rfl) (by kernel_rfl) (fun _ _ _ h => h) (Or.inl ⟨by rfl, ?_⟩) (by assumption) ?_
        rotate_left
        · intro w' hSw; (try dsimp only at hSw); go_simp; (try with_reducible rfl)
        (try simp only [Act.put, List.setIfInBounds_toArray, List.set_cons_zero, List.set_cons_succ, List.getElem_toArray, List.getElem_cons_succ, List.getElem_cons_zero])
        refine wpAnyH_take (i := 19) (v := ?_) rfl (by kernel_rfl) (by kernel_rfl) (by kernel_rfl) (fun _ _ _ h => h) (Or.inl ⟨by rfl, ?_⟩) (by assumption) ?_
        rotate_left
        · intro w' hSw; (try dsimp only at hSw); go_simp; (try with_reducible rfl)
        (try simp only [Act.put, List.setIfInBounds_toArray, List.set_cons_zero, List.set_cons_succ, List.getElem_toArray, List.getElem_cons_succ, List.getElem_cons_zero])
        refine wpAnyH_done (by kernel_rfl) ?_ _
        clear i0 i1 i2 i3 hb11
        go_wp2
        go_roundw
        case rel => exact ⟨k + 1, m, c, bd', by omega, by omega, by go_num, hs', hbd', KV11, KX11, HB11⟩
        case measure => simp [intOf]; omega
      · subst hkd
        obtain ⟨r, m', c', hs', S1, S2⟩ := hear_both m c bd nn 2 (z4 x y ox oy) (by omega) (by omega) hs
        have hbd' := hbd
        have HS1 := Lib.hid S1
        have HS2 := Lib.hid S2
        clear S1 S2
        go_wp2_with fail
        refine wp_region_held_drew (S := (fun w' => w'.cell? ⟨wr.heap.size, 1, none⟩ = some (.int .i64 nn) ∧ w'.cell? ⟨wr.heap.size, 2, none⟩ = some (.int .i64 x) ∧ w'.cell? ⟨wr.heap.size, 3, none⟩ = some (.int .i64 y) ∧ w'.cell? ⟨wr.heap.size, 4, none⟩ = some (.int .i64 ox) ∧ w'.cell? ⟨wr.heap.size, 5, none⟩ = some (.int .i64 oy))) (by kernel_rfl) ?_ (fun hHeld => ?_)
        · exact ⟨q1, q2, q3, q4, q5⟩
        refine wpAnyH_take (i := 0) (v := ?_) rfl (by kernel_rfl) (by kernel_rfl) (by kernel_rfl) (fun _ _ _ h => h) (Or.inl ⟨by rfl, ?_⟩) (by assumption) ?_
        rotate_left
        · intro w' hSw; (try dsimp only at hSw); go_simp; (try with_reducible rfl)
        (try simp only [Act.put, List.setIfInBounds_toArray, List.set_cons_zero, List.set_cons_succ, List.getElem_toArray, List.getElem_cons_succ, List.getElem_cons_zero])
        refine wpAnyH_take (i := 1) (v := ?_) rfl (by kernel_rfl) (by kernel_rfl) (by kernel_rfl) (fun _ _ _ h => h) (Or.inl ⟨by rfl, ?_⟩) (by assumption) ?_
        rotate_left
        · intro w' hSw; (try dsimp only at hSw); go_simp; (try with_reducible rfl)
        (try simp only [Act.put, List.setIfInBounds_toArray, List.set_cons_zero, List.set_cons_succ, List.getElem_toArray, List.getElem_cons_succ, List.getElem_cons_zero])
        refine wpAnyH_take (i := 2) (v := ?_) rfl (by kernel_rfl) (by kernel_rfl) (by kernel_rfl) (fun _ _ _ h => h) (Or.inl ⟨by rfl, ?_⟩) (by assumption) ?_
        rotate_left
        · intro w' hSw; (try dsimp only at hSw); go_simp; (try with_reducible rfl)
        (try simp only [Act.put, List.setIfInBounds_toArray, List.set_cons_zero, List.set_cons_succ, List.getElem_toArray, List.getElem_cons_succ, List.getElem_cons_zero])
        refine wpAnyH_take (i := 3) (v := ?_) rfl (by kernel_rfl) (by kernel_rfl) (by kernel_rfl) (fun _ _ _ h => h) (Or.inl ⟨by rfl, ?_⟩) (by assumption) ?_
        rotate_left
        · intro w' hSw; (try dsimp only at hSw); go_simp; (try with_reducible rfl)
        (try simp only [Act.put, List.setIfInBounds_toArray, List.set_cons_zero, List.set_cons_succ, List.getElem_toArray, List.getElem_cons_succ, List.getElem_cons_zero])
        refine wpAnyH_take (i := 4) (v := ?_) rfl (by kernel_rfl) (by kernel_rfl) (by kernel_rfl) (fun _ _ _ h => h) (Or.inl ⟨by rfl, ?_⟩) (by assumption) ?_
        rotate_left
        · intro w' hSw; (try dsimp only at hSw); go_simp; (try with_reducible rfl)
        (try simp only [Act.put, List.setIfInBounds_toArray, List.set_cons_zero, List.set_cons_succ, List.getElem_toArray, List.getElem_cons_succ, List.getElem_cons_zero])
        refine wpAnyH_take (i := 5) (v := ?_) rfl (by kernel_rfl) (by kernel_rfl) (by kernel_rfl) (fun _ _ _ h => h) (Or.inl ⟨by rfl, ?_⟩) (by assumption) ?_
        rotate_left
        · intro w' hSw; (try dsimp only at hSw); go_simp; (try with_reducible rfl)
        (try simp only [Act.put, List.setIfInBounds_toArray, List.set_cons_zero, List.set_cons_succ, List.getElem_toArray, List.getElem_cons_succ, List.getElem_cons_zero])
        refine wpAnyH_take (i := 6) (v := ?_) rfl (by kernel_rfl) (by kernel_rfl) (by kernel_rfl) (fun _ _ _ h => h) (Or.inl ⟨by rfl, ?_⟩) (by assumption) ?_
        rotate_left
        · intro w' hSw; (try dsimp only at hSw); go_simp; (try with_reducible rfl)
        (try simp only [Act.put, List.setIfInBounds_toArray, List.set_cons_zero, List.set_cons_succ, List.getElem_toArray, List.getElem_cons_succ, List.getElem_cons_zero])
        refine wpAnyH_take (i := 9) (v := ?_) rfl (by kernel_rfl) (by kernel_rfl) (by kernel_rfl) (fun _ _ _ h => h) (Or.inl ⟨by rfl, ?_⟩) (by assumption) ?_
        rotate_left
        · intro w' hSw; (try dsimp only at hSw); go_simp; (try with_reducible rfl)
        (try simp only [Act.put, List.setIfInBounds_toArray, List.set_cons_zero, List.set_cons_succ, List.getElem_toArray, List.getElem_cons_succ, List.getElem_cons_zero])
        refine wpAnyH_take (i := 10) (v := ?_) rfl (by kernel_rfl) (by kernel_rfl) (by kernel_rfl) (fun _ _ _ h => h) (Or.inl ⟨by rfl, ?_⟩) (by assumption) ?_
        rotate_left
        · intro w' hSw; (try dsimp only at hSw); go_simp; (try with_reducible rfl)
        (try simp only [Act.put, List.setIfInBounds_toArray, List.set_cons_zero, List.set_cons_succ, List.getElem_toArray, List.getElem_cons_succ, List.getElem_cons_zero])
        refine wpAnyH_take (i := 11) (v := ?_) rfl (by kernel_rfl) (by kernel_rfl) (by kernel_rfl) (fun _ _ _ h => h) (Or.inl ⟨by rfl, ?_⟩) (by assumption) ?_
        rotate_left
        · intro w' hSw; (try dsimp only at hSw); go_simp; (try with_reducible rfl)
        (try simp only [Act.put, List.setIfInBounds_toArray, List.set_cons_zero, List.set_cons_succ, List.getElem_toArray, List.getElem_cons_succ, List.getElem_cons_zero])
        refine wpAnyH_take (i := 12) (v := ?_) rfl (by kernel_rfl) (by kernel_rfl) (by kernel_rfl) (fun _ _ _ h => h) (Or.inl ⟨by rfl, ?_⟩) (by assumption) ?_
        rotate_left
        · intro w' hSw; (try dsimp only at hSw); go_simp; (try with_reducible rfl)
        (try simp only [Act.put, List.setIfInBounds_toArray, List.set_cons_zero, List.set_cons_succ, List.getElem_toArray, List.getElem_cons_succ, List.getElem_cons_zero])
        refine wpAnyH_take (i := 13) (v := ?_) rfl (by kernel_rfl) (by kernel_rfl) (by kernel_rfl) (fun _ _ _ h => h) (Or.inl ⟨by rfl, ?_⟩) (by assumption) ?_
        rotate_left
        · intro w' hSw; (try dsimp only at hSw); go_simp; (try with_reducible rfl)
        (try simp only [Act.put, List.setIfInBounds_toArray, List.set_cons_zero, List.set_cons_succ, List.getElem_toArray, List.getElem_cons_succ, List.getElem_cons_zero])
        refine wpAnyH_take (i := 14) (v := ?_) rfl (by kernel_rfl) (by kernel_rfl) (by kernel_rfl) (fun _ _ _ h => h) (Or.inl ⟨by rfl, ?_⟩) (by assumption) ?_
        rotate_left
        · intro w' hSw; (try dsimp only at hSw); go_simp; (try with_reducible rfl)
        (try simp only [Act.put, List.setIfInBounds_toArray, List.set_cons_zero, List.set_cons_succ, List.getElem_toArray, List.getElem_cons_succ, List.getElem_cons_zero])
        refine wpAnyH_take (i := 15) (v := ?_) rfl (by kernel_rfl) (by kernel_rfl) (by kernel_rfl) (fun _ _ _ h => h) (Or.inl ⟨by rfl, ?_⟩) (by assumption) ?_
        rotate_left
        · intro w' hSw; (try dsimp only at hSw); go_simp; (try with_reducible rfl)
        (try simp only [Act.put, List.setIfInBounds_toArray, List.set_cons_zero, List.set_cons_succ, List.getElem_toArray, List.getElem_cons_succ, List.getElem_cons_zero])
        have KVa : Ints3 (wr.alloc (.cells #[.int .i64 4, .int .i64 nn, .int .i64 x, .int .i64 y, .int .i64 ox, .int .i64 oy] 34)) w.heap.size m c bd := HKV.out
        have KXa : Ints3 (wr.alloc (.cells #[.int .i64 4, .int .i64 nn, .int .i64 x, .int .i64 y, .int .i64 ox, .int .i64 oy] 34)) (w.heap.size + 1) m c bd := HKX.out
        have HB0a : Below w.heap.size w (wr.alloc (.cells #[.int .i64 4, .int .i64 nn, .int .i64 x, .int .i64 y, .int .i64 ox, .int .i64 oy] 34)) := HBa.out
        have q1a : (wr.alloc (.cells #[.int .i64 4, .int .i64 nn, .int .i64 x, .int .i64 y, .int .i64 ox, .int .i64 oy] 34)).cell? ⟨wr.heap.size, 1, none⟩ = some (.int .i64 nn) := q1
        have q2a : (wr.alloc (.cells #[.int .i64 4, .int .i64 nn, .int .i64 x, .int .i64 y, .int .i64 ox, .int .i64 oy] 34)).cell? ⟨wr.heap.size, 2, none⟩ = some (.int .i64 x) := q2
        have q3a : (wr.alloc (.cells #[.int .i64 4, .int .i64 nn, .int .i64 x, .int .i64 y, .int .i64 ox, .int .i64 oy] 34)).cell? ⟨wr.heap.size, 3, none⟩ = some (.int .i64 y) := q3
        have q4a : (wr.alloc (.cells #[.int .i64 4, .int .i64 nn, .int .i64 x, .int .i64 y, .int .i64 ox, .int .i64 oy] 34)).cell? ⟨wr.heap.size, 4, none⟩ = some (.int .i64 ox) := q4
        have q5a : (wr.alloc (.cells #[.int .i64 4, .int .i64 nn, .int .i64 x, .int .i64 y, .int .i64 ox, .int .i64 oy] 34)).cell? ⟨wr.heap.size, 5, none⟩ = some (.int .i64 oy) := q5
        have lla : wr.heap.size < (wr.alloc (.cells #[.int .i64 4, .int .i64 nn, .int .i64 x, .int .i64 y, .int .i64 ox, .int .i64 oy] 34)).heap.size := la
        clear zA
        generalize hWa : (wr.alloc (.cells #[.int .i64 4, .int .i64 nn, .int .i64 x, .int .i64 y, .int .i64 ox, .int .i64 oy] 34)) = Wa at *
        clear hWa
        refine wpAnyH_ready (rs := [7, 16]) (by kernel_rfl) (by simp) ?_
        refine AllReadyH.cons rfl (fun K hK => ?_) (AllReadyH.cons rfl (fun K hK => ?_) (AllReadyH.nil))
        ·
          go_simp
          (try dsimp only)
          refine hK.out _ _ ?_ (fun hHeld => ?_)
          · exact ⟨(World.cell?_alloc_past (.cells #[.int .i64 x, .int .i64 y, .int .i64 ox, .int .i64 oy] 32) wr.heap.size 1 lla).trans q1a, (World.cell?_alloc_past (.cells #[.int .i64 x, .int .i64 y, .int .i64 ox, .int .i64 oy] 32) wr.heap.size 2 lla).trans q2a, (World.cell?_alloc_past (.cells #[.int .i64 x, .int .i64 y, .int .i64 ox, .int .i64 oy] 32) wr.heap.size 3 lla).trans q3a, (World.cell?_alloc_past (.cells #[.int .i64 x, .int .i64 y, .int .i64 ox, .int .i64 oy] 32) wr.heap.size 4 lla).trans q4a, (World.cell?_alloc_past (.cells #[.int .i64 x, .int .i64 y, .int .i64 ox, .int .i64 oy] 32) wr.heap.size 5 lla).trans q5a⟩
          clear hK K
          (try simp only [Act.put, List.setIfInBounds_toArray, List.set_cons_zero, List.set_cons_succ, List.getElem_toArray, List.getElem_cons_succ, List.getElem_cons_zero])
          have KVb : Ints3 (Wa.alloc (.cells #[.int .i64 x, .int .i64 y, .int .i64 ox, .int .i64 oy] 32)).drew w.heap.size _ _ _ := (KVa.alloc (.cells #[.int .i64 x, .int .i64 y, .int .i64 ox, .int .i64 oy] 32)).drew
          have KXb : Ints3 (Wa.alloc (.cells #[.int .i64 x, .int .i64 y, .int .i64 ox, .int .i64 oy] 32)).drew (w.heap.size + 1) m c bd := (KXa.alloc (.cells #[.int .i64 x, .int .i64 y, .int .i64 ox, .int .i64 oy] 32)).drew
          have HB0b : Below w.heap.size w (Wa.alloc (.cells #[.int .i64 x, .int .i64 y, .int .i64 ox, .int .i64 oy] 32)).drew := (HB0a.alloc HB0a.size (.cells #[.int .i64 x, .int .i64 y, .int .i64 ox, .int .i64 oy] 32)).drew
          have fl10 : FlatAt (Wa.alloc (.cells #[.int .i64 x, .int .i64 y, .int .i64 ox, .int .i64 oy] 32)) (some ⟨Wa.heap.size, 0, none⟩) 2 2 (z4 x y ox oy) := flat2 (new_cell Wa rfl _ _ 0) (new_cell Wa rfl _ _ 1) (new_cell Wa rfl _ _ 2) (new_cell Wa rfl _ _ 3) bx by' box boy (by simp)
          have fl1 : FlatAt (Wa.alloc (.cells #[.int .i64 x, .int .i64 y, .int .i64 ox, .int .i64 oy] 32)).drew (some ⟨Wa.heap.size, 0, none⟩) 2 2 (z4 x y ox oy) := fl10
          have q1b : World.cell? (Wa.alloc (.cells #[.int .i64 x, .int .i64 y, .int .i64 ox, .int .i64 oy] 32)).drew ⟨wr.heap.size, 1, none⟩ = _ := (World.cell?_alloc_past (.cells #[.int .i64 x, .int .i64 y, .int .i64 ox, .int .i64 oy] 32) wr.heap.size 1 lla).trans q1a
          have q2b : World.cell? (Wa.alloc (.cells #[.int .i64 x, .int .i64 y, .int .i64 ox, .int .i64 oy] 32)).drew ⟨wr.heap.size, 2, none⟩ = _ := (World.cell?_alloc_past (.cells #[.int .i64 x, .int .i64 y, .int .i64 ox, .int .i64 oy] 32) wr.heap.size 2 lla).trans q2a
          have q3b : World.cell? (Wa.alloc (.cells #[.int .i64 x, .int .i64 y, .int .i64 ox, .int .i64 oy] 32)).drew ⟨wr.heap.size, 3, none⟩ = _ := (World.cell?_alloc_past (.cells #[.int .i64 x, .int .i64 y, .int .i64 ox, .int .i64 oy] 32) wr.heap.size 3 lla).trans q3a
          have q4b : World.cell? (Wa.alloc (.cells #[.int .i64 x, .int .i64 y, .int .i64 ox, .int .i64 oy] 32)).drew ⟨wr.heap.size, 4, none⟩ = _ := (World.cell?_alloc_past (.cells #[.int .i64 x, .int .i64 y, .int .i64 ox, .int .i64 oy] 32) wr.heap.size 4 lla).trans q4a
          have q5b : World.cell? (Wa.alloc (.cells #[.int .i64 x, .int .i64 y, .int .i64 ox, .int .i64 oy] 32)).drew ⟨wr.heap.size, 5, none⟩ = _ := (World.cell?_alloc_past (.cells #[.int .i64 x, .int .i64 y, .int .i64 ox, .int .i64 oy] 32) wr.heap.size 5 lla).trans q5a
          have llb : wr.heap.size < (Wa.alloc (.cells #[.int .i64 x, .int .i64 y, .int .i64 ox, .int .i64 oy] 32)).drew.heap.size := by simp; omega
          have nsb : wr.heap.size < Wa.heap.size := lla
          clear fl10
          generalize hWb : (Wa.alloc (.cells #[.int .i64 x, .int .i64 y, .int .i64 ox, .int .i64 oy] 32)).drew = Wb at *
          have HWb := Lib.hid hWb
          clear hWb
          refine wpAnyH_ready (rs := [8, 16]) (by kernel_rfl) (by simp) ?_
          refine AllReadyH.cons rfl (fun K hK => ?_) (AllReadyH.cons rfl (fun K hK => ?_) (AllReadyH.nil))
          ·
            go_simp
            (go_at_call 19; refine (HS1.out _ _ _ _ KVb fl1 (by omega)).mono ?_; rintro e Wc ⟨rfl, ho, KVc⟩)
            (try dsimp only)
            have KXc := KXb.only ho (by omega)
            have HB0c : Below w.heap.size w Wc := HB0b.trans (ho.below (Nat.le_refl _) HB0b.size)
            have q1c := (ho.cell wr.heap.size 1 llb nab).trans q1b
            have q2c := (ho.cell wr.heap.size 2 llb nab).trans q2b
            have q3c := (ho.cell wr.heap.size 3 llb nab).trans q3b
            have q4c := (ho.cell wr.heap.size 4 llb nab).trans q4b
            have q5c := (ho.cell wr.heap.size 5 llb nab).trans q5b
            have llc : wr.heap.size < Wc.heap.size := Nat.lt_of_lt_of_le llb ho.size
            refine hK.out _ _ ?_ (fun hHeld => ?_)
            · exact ⟨q1c, q2c, q3c, q4c, q5c⟩
            clear hK K
            (try simp only [Act.put, List.setIfInBounds_toArray, List.set_cons_zero, List.set_cons_succ, List.getElem_toArray, List.getElem_cons_succ, List.getElem_cons_zero])
            clear ho fl1
            refine wpAnyH_ready (rs := [16]) (by kernel_rfl) (by simp) ?_
            refine AllReadyH.cons rfl (fun K hK => ?_) (AllReadyH.nil)
            go_simp
            (try dsimp only)
            refine hK.out _ _ ?_ (fun hHeld => ?_)
            · exact ⟨(World.cell?_alloc_past (.cells #[.int .i64 x, .int .i64 y, .int .i64 ox, .int .i64 oy] 32) wr.heap.size 1 llc).trans q1c, (World.cell?_alloc_past (.cells #[.int .i64 x, .int .i64 y, .int .i64 ox, .int .i64 oy] 32) wr.heap.size 2 llc).trans q2c, (World.cell?_alloc_past (.cells #[.int .i64 x, .int .i64 y, .int .i64 ox, .int .i64 oy] 32) wr.heap.size 3 llc).trans q3c, (World.cell?_alloc_past (.cells #[.int .i64 x, .int .i64 y, .int .i64 ox, .int .i64 oy] 32) wr.heap.size 4 llc).trans q4c, (World.cell?_alloc_past (.cells #[.int .i64 x, .int .i64 y, .int .i64 ox, .int .i64 oy] 32) wr.heap.size 5 llc).trans q5c⟩
            clear hK K
            (try simp only [Act.put, List.setIfInBounds_toArray, List.set_cons_zero, List.set_cons_succ, List.getElem_toArray, List.getElem_cons_succ, List.getElem_cons_zero])
            have KVd : Ints3 (Wc.alloc (.cells #[.int .i64 x, .int .i64 y, .int .i64 ox, .int .i64 oy] 32)) w.heap.size _ _ _ := (KVc.alloc (.cells #[.int .i64 x, .int .i64 y, .int .i64 ox, .int .i64 oy] 32))
            have KXd : Ints3 (Wc.alloc (.cells #[.int .i64 x, .int .i64 y, .int .i64 ox, .int .i64 oy] 32)) (w.heap.size + 1) m c bd := (KXc.alloc (.cells #[.int .i64 x, .int .i64 y, .int .i64 ox, .int .i64 oy] 32))
            have HB0d : Below w.heap.size w (Wc.alloc (.cells #[.int .i64 x, .int .i64 y, .int .i64 ox, .int .i64 oy] 32)) := (HB0c.alloc HB0c.size (.cells #[.int .i64 x, .int .i64 y, .int .i64 ox, .int .i64 oy] 32))
            have fl20 : FlatAt (Wc.alloc (.cells #[.int .i64 x, .int .i64 y, .int .i64 ox, .int .i64 oy] 32)) (some ⟨Wc.heap.size, 0, none⟩) 2 2 (z4 x y ox oy) := flat2 (new_cell Wc rfl _ _ 0) (new_cell Wc rfl _ _ 1) (new_cell Wc rfl _ _ 2) (new_cell Wc rfl _ _ 3) bx by' box boy (by simp)
            have fl2 : FlatAt (Wc.alloc (.cells #[.int .i64 x, .int .i64 y, .int .i64 ox, .int .i64 oy] 32)) (some ⟨Wc.heap.size, 0, none⟩) 2 2 (z4 x y ox oy) := fl20
            have q1d : World.cell? (Wc.alloc (.cells #[.int .i64 x, .int .i64 y, .int .i64 ox, .int .i64 oy] 32)) ⟨wr.heap.size, 1, none⟩ = _ := (World.cell?_alloc_past (.cells #[.int .i64 x, .int .i64 y, .int .i64 ox, .int .i64 oy] 32) wr.heap.size 1 llc).trans q1c
            have q2d : World.cell? (Wc.alloc (.cells #[.int .i64 x, .int .i64 y, .int .i64 ox, .int .i64 oy] 32)) ⟨wr.heap.size, 2, none⟩ = _ := (World.cell?_alloc_past (.cells #[.int .i64 x, .int .i64 y, .int .i64 ox, .int .i64 oy] 32) wr.heap.size 2 llc).trans q2c
            have q3d : World.cell? (Wc.alloc (.cells #[.int .i64 x, .int .i64 y, .int .i64 ox, .int .i64 oy] 32)) ⟨wr.heap.size, 3, none⟩ = _ := (World.cell?_alloc_past (.cells #[.int .i64 x, .int .i64 y, .int .i64 ox, .int .i64 oy] 32) wr.heap.size 3 llc).trans q3c
            have q4d : World.cell? (Wc.alloc (.cells #[.int .i64 x, .int .i64 y, .int .i64 ox, .int .i64 oy] 32)) ⟨wr.heap.size, 4, none⟩ = _ := (World.cell?_alloc_past (.cells #[.int .i64 x, .int .i64 y, .int .i64 ox, .int .i64 oy] 32) wr.heap.size 4 llc).trans q4c
            have q5d : World.cell? (Wc.alloc (.cells #[.int .i64 x, .int .i64 y, .int .i64 ox, .int .i64 oy] 32)) ⟨wr.heap.size, 5, none⟩ = _ := (World.cell?_alloc_past (.cells #[.int .i64 x, .int .i64 y, .int .i64 ox, .int .i64 oy] 32) wr.heap.size 5 llc).trans q5c
            have lld : wr.heap.size < (Wc.alloc (.cells #[.int .i64 x, .int .i64 y, .int .i64 ox, .int .i64 oy] 32)).heap.size := by simp; omega
            have nsd : wr.heap.size < Wc.heap.size := llc
            clear fl20
            generalize hWd : (Wc.alloc (.cells #[.int .i64 x, .int .i64 y, .int .i64 ox, .int .i64 oy] 32)) = Wd at *
            have HWd := Lib.hid hWd
            clear hWd
            refine wpAnyH_ready (rs := [17]) (by kernel_rfl) (by simp) ?_
            refine AllReadyH.cons rfl (fun K hK => ?_) (AllReadyH.nil)
            go_simp
            (go_at_call 20; refine (HS2.out _ _ _ _ KXd fl2).mono ?_; rintro e w9 ⟨rfl, ho9, KX9⟩)
            (try dsimp only)
            have KV9 := KVd.only ho9 (by omega)
            have HB9 : Below w.heap.size w w9 := HB0d.trans (ho9.below (by omega) HB0d.size)
            refine hK.out _ _ ?_ (fun hHeld => ?_)
            · exact ⟨(ho9.cell wr.heap.size 1 lld nac).trans q1d, (ho9.cell wr.heap.size 2 lld nac).trans q2d, (ho9.cell wr.heap.size 3 lld nac).trans q3d, (ho9.cell wr.heap.size 4 lld nac).trans q4d, (ho9.cell wr.heap.size 5 lld nac).trans q5d⟩
            clear hK K
            (try simp only [Act.put, List.setIfInBounds_toArray, List.set_cons_zero, List.set_cons_succ, List.getElem_toArray, List.getElem_cons_succ, List.getElem_cons_zero])
            refine wpAnyH_take (i := 18) (v := ?_) rfl (by kernel_rfl) (by kernel_rfl) (by kernel_rfl) (fun _ _ _ h => h) (Or.inl ⟨by rfl, ?_⟩) (by assumption) ?_
            rotate_left
            · intro w' hSw; (try dsimp only at hSw); go_simp; (try with_reducible rfl)
            (try simp only [Act.put, List.setIfInBounds_toArray, List.set_cons_zero, List.set_cons_succ, List.getElem_toArray, List.getElem_cons_succ, List.getElem_cons_zero])
            refine wpAnyH_take (i := 19) (v := ?_) rfl (by kernel_rfl) (by kernel_rfl) (by kernel_rfl) (fun _ _ _ h => h) (Or.inl ⟨by rfl, ?_⟩) (by assumption) ?_
            rotate_left
            · intro w' hSw; (try dsimp only at hSw); go_simp; (try with_reducible rfl)
            (try simp only [Act.put, List.setIfInBounds_toArray, List.set_cons_zero, List.set_cons_succ, List.getElem_toArray, List.getElem_cons_succ, List.getElem_cons_zero])
            refine wpAnyH_done (by kernel_rfl) ?_ _
            have i0 := KX9.c0
            have i1 := KX9.c1
            have i2 := KX9.c2
            have i3 := KX9.lt
            go_wp2_with fail
            refine wp_region_held_drew (S := (fun w' => w'.cell? ⟨w.heap.size + 1, 0, none⟩ = some (.int .i64 m') ∧ w'.cell? ⟨w.heap.size + 1, 1, none⟩ = some (.int .i64 c') ∧ w'.cell? ⟨w.heap.size + 1, 2, none⟩ = some (.int .i64 bd))) (by kernel_rfl) ?_ (fun hHeld => ?_)
            · exact ⟨i0, i1, i2⟩
            refine wpAnyH_take (i := 0) (v := ?_) rfl (by kernel_rfl) (by kernel_rfl) (by kernel_rfl) (fun _ _ _ h => h) (Or.inl ⟨by rfl, ?_⟩) (by assumption) ?_
            rotate_left
            · intro w' hSw; (try dsimp only at hSw); go_simp; (try with_reducible rfl)
            (try simp only [Act.put, List.setIfInBounds_toArray, List.set_cons_zero, List.set_cons_succ, List.getElem_toArray, List.getElem_cons_succ, List.getElem_cons_zero])
            refine wpAnyH_take (i := 1) (v := ?_) rfl (by kernel_rfl) (by kernel_rfl) (by kernel_rfl) (fun _ _ _ h => h) (Or.inl ⟨by rfl, ?_⟩) (by assumption) ?_
            rotate_left
            · intro w' hSw; (try dsimp only at hSw); go_simp; (try with_reducible rfl)
            (try simp only [Act.put, List.setIfInBounds_toArray, List.set_cons_zero, List.set_cons_succ, List.getElem_toArray, List.getElem_cons_succ, List.getElem_cons_zero])
            refine wpAnyH_take (i := 2) (v := ?_) rfl (by kernel_rfl) (by kernel_rfl) (by kernel_rfl) (fun _ _ _ h => h) (Or.inl ⟨by rfl, ?_⟩) (by assumption) ?_
            rotate_left
            · intro w' hSw; (try dsimp only at hSw); go_simp; (try with_reducible rfl)
            (try simp only [Act.put, List.setIfInBounds_toArray, List.set_cons_zero, List.set_cons_succ, List.getElem_toArray, List.getElem_cons_succ, List.getElem_cons_zero])
            refine wpAnyH_take (i := 3) (v := ?_) rfl (by kernel_rfl) (by kernel_rfl) (by kernel_rfl) (fun _ _ _ h => h) (Or.inl ⟨by rfl, ?_⟩) (by assumption) ?_
            rotate_left
            · intro w' hSw; (try dsimp only at hSw); go_simp; (try with_reducible rfl)
            (try simp only [Act.put, List.setIfInBounds_toArray, List.set_cons_zero, List.set_cons_succ, List.getElem_toArray, List.getElem_cons_succ, List.getElem_cons_zero])
            refine wpAnyH_take (i := 5) (v := ?_) rfl (by kernel_rfl) (by kernel_rfl) (by kernel_rfl) (fun _ _ _ h => h) (Or.inl ⟨by rfl, ?_⟩) (by assumption) ?_
            rotate_left
            · intro w' hSw; (try dsimp only at hSw); go_simp; (try with_reducible rfl)
            (try simp only [Act.put, List.setIfInBounds_toArray, List.set_cons_zero, List.set_cons_succ, List.getElem_toArray, List.getElem_cons_succ, List.getElem_cons_zero])
            refine wpAnyH_take (i := 6) (v := ?_) rfl (by kernel_rfl) (by kernel_rfl) (by kernel_rfl) (fun _ _ _ h => h) (Or.inl ⟨by rfl, ?_⟩) (by assumption) ?_
            rotate_left
            · intro w' hSw; (try dsimp only at hSw); go_simp; (try with_reducible rfl)
            (try simp only [Act.put, List.setIfInBounds_toArray, List.set_cons_zero, List.set_cons_succ, List.getElem_toArray, List.getElem_cons_succ, List.getElem_cons_zero])
            refine wpAnyH_take (i := 7) (v := ?_) rfl (by kernel_rfl) (by kernel_rfl) (by kernel_rfl) (fun _ _ _ h => h) (Or.inl ⟨by rfl, ?_⟩) (by assumption) ?_
            rotate_left
            · intro w' hSw; (try dsimp only at hSw); go_simp; (try with_reducible rfl)
            (try simp only [Act.put, List.setIfInBounds_toArray, List.set_cons_zero, List.set_cons_succ, List.getElem_toArray, List.getElem_cons_succ, List.getElem_cons_zero])
            refine wpAnyH_take (i := 8) (v := ?_) rfl (by kernel_rfl) (by kernel_rfl) (by kernel_rfl) (fun _ _ _ h => h) (Or.inl ⟨by rfl, ?_⟩) (by assumption) ?_
            rotate_left
            · intro w' hSw; (try dsimp only at hSw); go_simp; (try with_reducible rfl)
            (try simp only [Act.put, List.setIfInBounds_toArray, List.set_cons_zero, List.set_cons_succ, List.getElem_toArray, List.getElem_cons_succ, List.getElem_cons_zero])
            refine wpAnyH_ready (rs := [4]) (by kernel_rfl) (by simp) ?_
            refine AllReadyH.cons rfl (fun K hK => ?_) AllReadyH.nil
            go_simp
            (go_at_call 23; refine (hlc_last _ m' c' bd _ (by first | exact KV9 | exact KV9.drew)).mono ?_; rintro e w11 ⟨rfl, hb11⟩; have KX11 : Ints3 w11 (w.heap.size + 1) m' c' bd := (KX9.drew).below hb11 KX9.lt; have KV11 : Ints3 w11 w.heap.size m' c' bd := (KV9.drew).below hb11 KV9.lt; have HB11 : Below w.heap.size w w11 := Below.trans (show Below w.heap.size w _ from (by (repeat' (first | (with_reducible exact Below.refl _ _) | (with_reducible assumption) | (with_reducible refine Below.trans ?_ (Below.mono (by with_reducible assumption) ?_)) | (with_reducible refine Below.alloc ?_ ?_ _) | (with_reducible refine Below.setCell ?_ ?_ _) | (with_reducible refine below_drewN ?_ _) | (with_reducible refine Below.drew ?_) | go_size)))) (hb11.mono (Below.size (show Below w.heap.size w _ from (by (repeat' (first | (with_reducible exact Below.refl _ _) | (with_reducible assumption) | (with_reducible refine Below.trans ?_ (Below.mono (by with_reducible assumption) ?_)) | (with_reducible refine Below.alloc ?_ ?_ _) | (with_reducible refine Below.setCell ?_ ?_ _) | (with_reducible refine below_drewN ?_ _) | (with_reducible refine Below.drew ?_) | go_size)))))))
            (try dsimp only)
            refine hK.out _ _ ?_ (fun hHeld => ?_)
            · exact ⟨KX11.c0, KX11.c1, KX11.c2⟩
            clear hK K
            (try simp only [Act.put, List.setIfInBounds_toArray, List.set_cons_zero, List.set_cons_succ, List.getElem_toArray, List.getElem_cons_succ, List.getElem_cons_zero])
            refine wpAnyH_take (i := 9) (v := ?_) rfl (by kernel_rfl) (by kernel_rfl) (by kernel_rfl) (fun _ _ _ h => h) (Or.inl ⟨by rfl, ?_⟩) (by assumption) ?_
            rotate_left
            · intro w' hSw; (try dsimp only at hSw); go_simp; (try with_reducible rfl)
            (try simp only [Act.put, List.setIfInBounds_toArray, List.set_cons_zero, List.set_cons_succ, List.getElem_toArray, List.getElem_cons_succ, List.getElem_cons_zero])
            refine wpAnyH_take (i := 10) (v := ?_) rfl (by kernel_rfl) (by kernel_rfl) (by kernel_rfl) (fun _ _ _ h => h) (Or.inl ⟨by rfl, ?_⟩) (by assumption) ?_
            rotate_left
            · intro w' hSw; (try dsimp only at hSw); go_simp; (try with_reducible rfl)
            (try simp only [Act.put, List.setIfInBounds_toArray, List.set_cons_zero, List.set_cons_succ, List.getElem_toArray, List.getElem_cons_succ, List.getElem_cons_zero])
            refine wpAnyH_take (i := 11) (v := ?_) rfl (by kernel_rfl) (by kernel_rfl) (by kernel_rfl) (fun _ _ _ h => h) (Or.inl ⟨by rfl, ?_⟩) (by assumption) ?_
            rotate_left
            · intro w' hSw; (try dsimp only at hSw); go_simp; (try with_reducible rfl)
            (try simp only [Act.put, List.setIfInBounds_toArray, List.set_cons_zero, List.set_cons_succ, List.getElem_toArray, List.getElem_cons_succ, List.getElem_cons_zero])
            refine wpAnyH_take (i := 12) (v := ?_) rfl (by kernel_rfl) (by kernel_rfl) (by kernel_rfl) (fun _ _ _ h => h) (Or.inl ⟨by rfl, ?_⟩) (by assumption) ?_
            rotate_left
            · intro w' hSw; (try dsimp only at hSw); go_simp; (try with_reducible rfl)
            (try simp only [Act.put, List.setIfInBounds_toArray, List.set_cons_zero, List.set_cons_succ, List.getElem_toArray, List.getElem_cons_succ, List.getElem_cons_zero])
            refine wpAnyH_take (i := 14) (v := ?_) rfl (by kernel_rfl) (by kernel_rfl) (by kernel_rfl) (fun _ _ _ h => h) (Or.inl ⟨by rfl, ?_⟩) (by assumption) ?_
            rotate_left
            · intro w' hSw; (try dsimp only at hSw); go_simp; (try with_reducible rfl)
            (try simp only [Act.put, List.setIfInBounds_toArray, List.set_cons_zero, List.set_cons_succ, List.getElem_toArray, List.getElem_cons_succ, List.getElem_cons_zero])
            refine wpAnyH_take (i := 15) (v := ?_) rfl (by kernel_rfl) (by kernel_rfl) (by kernel_rfl) (fun _ _ _ h => h) (Or.inl ⟨by rfl, ?_⟩) (by assumption) ?_
            rotate_left
            · intro w' hSw; (try dsimp only at hSw); go_simp; (try with_reducible rfl)
            (try simp only [Act.put, List.setIfInBounds_toArray, List.set_cons_zero, List.set_cons_succ, List.getElem_toArray, List.getElem_cons_succ, List.getElem_cons_zero])
            refine wpAnyH_take (i := 16) (v := ?_) rfl (by kernel_rfl) (by kernel_rfl) (by kernel_rfl) (fun _ _ _ h => h) (Or.inl ⟨by rfl, ?_⟩) (by assumption) ?_
            rotate_left
            · intro w' hSw; (try dsimp only at hSw); go_simp; (try with_reducible rfl)
            (try simp only [Act.put, List.setIfInBounds_toArray, List.set_cons_zero, List.set_cons_succ, List.getElem_toArray, List.getElem_cons_succ, List.getElem_cons_zero])
            refine wpAnyH_take (i := 17) (v := ?_) rfl (by kernel_rfl) (by kernel_rfl) (by kernel_rfl) (fun _ _ _ h => h) (Or.inl ⟨by rfl, ?_⟩) (by assumption) ?_
            rotate_left
            · intro w' hSw; (try dsimp only at hSw); go_simp; (try with_reducible rfl)
            (try simp only [Act.put, List.setIfInBounds_toArray, List.set_cons_zero, List.set_cons_succ, List.getElem_toArray, List.getElem_cons_succ, List.getElem_cons_zero])
            refine wpAnyH_ready (rs := [13]) (by kernel_rfl) (by simp) ?_
            refine AllReadyH.cons rfl (fun K hK => ?_) AllReadyH.nil
            go_simp
            (go_at_call 24; refine (hlc_bound _ m' c' bd _ KV11).mono ?_; rintro e w' ⟨rfl, rfl⟩)
            (try dsimp only)
            refine hK.out _ _ ?_ (fun hHeld => ?_)
            · exact ⟨KX11.c0, KX11.c1, KX11.c2⟩
            clear hK K
            (try simp only [Act.put, List.setIfInBounds_toArray, List.set_cons_zero, List.set_cons_succ, List.getElem_toArray, List.getElem_cons_succ, List.getElem_cons_zero])
            refine wpAnyH_take (i := 18) (v := ?_) rfl (by kernel_rfl) (by kernel_rfl) (by kernel_rfl) (fun _ _ _ h => h) (Or.inl ⟨by rfl, ?_⟩) (by assumption) ?_
            rotate_left
            · intro w' hSw; (try dsimp only at hSw); go_simp; (try with_reducible rfl)
            (try simp only [Act.put, List.setIfInBounds_toArray, List.set_cons_zero, List.set_cons_succ, List.getElem_toArray, List.getElem_cons_succ, List.getElem_cons_zero])
            refine wpAnyH_take (i := 19) (v := ?_) rfl (by kernel_rfl) (by kernel_rfl) (by kernel_rfl) (fun _ _ _ h => h) (Or.inl ⟨by rfl, ?_⟩) (by assumption) ?_
            rotate_left
            · intro w' hSw; (try dsimp only at hSw); go_simp; (try with_reducible rfl)
            (try simp only [Act.put, List.setIfInBounds_toArray, List.set_cons_zero, List.set_cons_succ, List.getElem_toArray, List.getElem_cons_succ, List.getElem_cons_zero])
            refine wpAnyH_done (by kernel_rfl) ?_ _
            clear i0 i1 i2 i3 hb11
            go_wp2
            go_roundw
            case rel => exact ⟨k + 1, m', c', bd, by omega, by omega, by go_num, hs', hbd', KV11, KX11, HB11⟩
            case measure => simp [intOf]; omega
          ·
            go_simp
            (try dsimp only)
            refine hK.out _ _ ?_ (fun hHeld => ?_)
            · exact ⟨(World.cell?_alloc_past (.cells #[.int .i64 x, .int .i64 y, .int .i64 ox, .int .i64 oy] 32) wr.heap.size 1 llb).trans q1b, (World.cell?_alloc_past (.cells #[.int .i64 x, .int .i64 y, .int .i64 ox, .int .i64 oy] 32) wr.heap.size 2 llb).trans q2b, (World.cell?_alloc_past (.cells #[.int .i64 x, .int .i64 y, .int .i64 ox, .int .i64 oy] 32) wr.heap.size 3 llb).trans q3b, (World.cell?_alloc_past (.cells #[.int .i64 x, .int .i64 y, .int .i64 ox, .int .i64 oy] 32) wr.heap.size 4 llb).trans q4b, (World.cell?_alloc_past (.cells #[.int .i64 x, .int .i64 y, .int .i64 ox, .int .i64 oy] 32) wr.heap.size 5 llb).trans q5b⟩
            clear hK K
            (try simp only [Act.put, List.setIfInBounds_toArray, List.set_cons_zero, List.set_cons_succ, List.getElem_toArray, List.getElem_cons_succ, List.getElem_cons_zero])
            have KVc : Ints3 (Wb.alloc (.cells #[.int .i64 x, .int .i64 y, .int .i64 ox, .int .i64 oy] 32)) w.heap.size _ _ _ := (KVb.alloc (.cells #[.int .i64 x, .int .i64 y, .int .i64 ox, .int .i64 oy] 32))
            have KXc : Ints3 (Wb.alloc (.cells #[.int .i64 x, .int .i64 y, .int .i64 ox, .int .i64 oy] 32)) (w.heap.size + 1) m c bd := (KXb.alloc (.cells #[.int .i64 x, .int .i64 y, .int .i64 ox, .int .i64 oy] 32))
            have HB0c : Below w.heap.size w (Wb.alloc (.cells #[.int .i64 x, .int .i64 y, .int .i64 ox, .int .i64 oy] 32)) := (HB0b.alloc HB0b.size (.cells #[.int .i64 x, .int .i64 y, .int .i64 ox, .int .i64 oy] 32))
            have fl20 : FlatAt (Wb.alloc (.cells #[.int .i64 x, .int .i64 y, .int .i64 ox, .int .i64 oy] 32)) (some ⟨Wb.heap.size, 0, none⟩) 2 2 (z4 x y ox oy) := flat2 (new_cell Wb rfl _ _ 0) (new_cell Wb rfl _ _ 1) (new_cell Wb rfl _ _ 2) (new_cell Wb rfl _ _ 3) bx by' box boy (by simp)
            have fl2 : FlatAt (Wb.alloc (.cells #[.int .i64 x, .int .i64 y, .int .i64 ox, .int .i64 oy] 32)) (some ⟨Wb.heap.size, 0, none⟩) 2 2 (z4 x y ox oy) := fl20
            have q1c : World.cell? (Wb.alloc (.cells #[.int .i64 x, .int .i64 y, .int .i64 ox, .int .i64 oy] 32)) ⟨wr.heap.size, 1, none⟩ = _ := (World.cell?_alloc_past (.cells #[.int .i64 x, .int .i64 y, .int .i64 ox, .int .i64 oy] 32) wr.heap.size 1 llb).trans q1b
            have q2c : World.cell? (Wb.alloc (.cells #[.int .i64 x, .int .i64 y, .int .i64 ox, .int .i64 oy] 32)) ⟨wr.heap.size, 2, none⟩ = _ := (World.cell?_alloc_past (.cells #[.int .i64 x, .int .i64 y, .int .i64 ox, .int .i64 oy] 32) wr.heap.size 2 llb).trans q2b
            have q3c : World.cell? (Wb.alloc (.cells #[.int .i64 x, .int .i64 y, .int .i64 ox, .int .i64 oy] 32)) ⟨wr.heap.size, 3, none⟩ = _ := (World.cell?_alloc_past (.cells #[.int .i64 x, .int .i64 y, .int .i64 ox, .int .i64 oy] 32) wr.heap.size 3 llb).trans q3b
            have q4c : World.cell? (Wb.alloc (.cells #[.int .i64 x, .int .i64 y, .int .i64 ox, .int .i64 oy] 32)) ⟨wr.heap.size, 4, none⟩ = _ := (World.cell?_alloc_past (.cells #[.int .i64 x, .int .i64 y, .int .i64 ox, .int .i64 oy] 32) wr.heap.size 4 llb).trans q4b
            have q5c : World.cell? (Wb.alloc (.cells #[.int .i64 x, .int .i64 y, .int .i64 ox, .int .i64 oy] 32)) ⟨wr.heap.size, 5, none⟩ = _ := (World.cell?_alloc_past (.cells #[.int .i64 x, .int .i64 y, .int .i64 ox, .int .i64 oy] 32) wr.heap.size 5 llb).trans q5b
            have llc : wr.heap.size < (Wb.alloc (.cells #[.int .i64 x, .int .i64 y, .int .i64 ox, .int .i64 oy] 32)).heap.size := by simp; omega
            have nsc : wr.heap.size < Wb.heap.size := llb
            clear fl20
            generalize hWc : (Wb.alloc (.cells #[.int .i64 x, .int .i64 y, .int .i64 ox, .int .i64 oy] 32)) = Wc at *
            have HWc := Lib.hid hWc
            clear hWc
            have fl1' : FlatAt Wc _ 2 2 (z4 x y ox oy) := HWc.out ▸ fl1.alloc (.cells #[.int .i64 x, .int .i64 y, .int .i64 ox, .int .i64 oy] 32)
            refine wpAnyH_ready (rs := [8]) (by kernel_rfl) (by simp) ?_
            refine AllReadyH.cons rfl (fun K hK => ?_) (AllReadyH.nil)
            go_simp
            (go_at_call 19; refine (HS1.out _ _ _ _ KVc fl1' (by omega)).mono ?_; rintro e Wd ⟨rfl, ho, KVd⟩)
            (try dsimp only)
            have KXd := KXc.only ho (by omega)
            have HB0d : Below w.heap.size w Wd := HB0c.trans (ho.below (Nat.le_refl _) HB0c.size)
            have q1d := (ho.cell wr.heap.size 1 llc nab).trans q1c
            have q2d := (ho.cell wr.heap.size 2 llc nab).trans q2c
            have q3d := (ho.cell wr.heap.size 3 llc nab).trans q3c
            have q4d := (ho.cell wr.heap.size 4 llc nab).trans q4c
            have q5d := (ho.cell wr.heap.size 5 llc nab).trans q5c
            have lld : wr.heap.size < Wd.heap.size := Nat.lt_of_lt_of_le llc ho.size
            refine hK.out _ _ ?_ (fun hHeld => ?_)
            · exact ⟨q1d, q2d, q3d, q4d, q5d⟩
            clear hK K
            (try simp only [Act.put, List.setIfInBounds_toArray, List.set_cons_zero, List.set_cons_succ, List.getElem_toArray, List.getElem_cons_succ, List.getElem_cons_zero])
            have fl2' := fl2.only ho (by omega)
            refine wpAnyH_ready (rs := [17]) (by kernel_rfl) (by simp) ?_
            refine AllReadyH.cons rfl (fun K hK => ?_) (AllReadyH.nil)
            go_simp
            (go_at_call 20; refine (HS2.out _ _ _ _ KXd fl2').mono ?_; rintro e w9 ⟨rfl, ho9, KX9⟩)
            (try dsimp only)
            have KV9 := KVd.only ho9 (by omega)
            have HB9 : Below w.heap.size w w9 := HB0d.trans (ho9.below (by omega) HB0d.size)
            refine hK.out _ _ ?_ (fun hHeld => ?_)
            · exact ⟨(ho9.cell wr.heap.size 1 lld nac).trans q1d, (ho9.cell wr.heap.size 2 lld nac).trans q2d, (ho9.cell wr.heap.size 3 lld nac).trans q3d, (ho9.cell wr.heap.size 4 lld nac).trans q4d, (ho9.cell wr.heap.size 5 lld nac).trans q5d⟩
            clear hK K
            (try simp only [Act.put, List.setIfInBounds_toArray, List.set_cons_zero, List.set_cons_succ, List.getElem_toArray, List.getElem_cons_succ, List.getElem_cons_zero])
            refine wpAnyH_take (i := 18) (v := ?_) rfl (by kernel_rfl) (by kernel_rfl) (by kernel_rfl) (fun _ _ _ h => h) (Or.inl ⟨by rfl, ?_⟩) (by assumption) ?_
            rotate_left
            · intro w' hSw; (try dsimp only at hSw); go_simp; (try with_reducible rfl)
            (try simp only [Act.put, List.setIfInBounds_toArray, List.set_cons_zero, List.set_cons_succ, List.getElem_toArray, List.getElem_cons_succ, List.getElem_cons_zero])
            refine wpAnyH_take (i := 19) (v := ?_) rfl (by kernel_rfl) (by kernel_rfl) (by kernel_rfl) (fun _ _ _ h => h) (Or.inl ⟨by rfl, ?_⟩) (by assumption) ?_
            rotate_left
            · intro w' hSw; (try dsimp only at hSw); go_simp; (try with_reducible rfl)
            (try simp only [Act.put, List.setIfInBounds_toArray, List.set_cons_zero, List.set_cons_succ, List.getElem_toArray, List.getElem_cons_succ, List.getElem_cons_zero])
            refine wpAnyH_done (by kernel_rfl) ?_ _
            have i0 := KX9.c0
            have i1 := KX9.c1
            have i2 := KX9.c2
            have i3 := KX9.lt
            go_wp2_with fail
            refine wp_region_held_drew (S := (fun w' => w'.cell? ⟨w.heap.size + 1, 0, none⟩ = some (.int .i64 m') ∧ w'.cell? ⟨w.heap.size + 1, 1, none⟩ = some (.int .i64 c') ∧ w'.cell? ⟨w.heap.size + 1, 2, none⟩ = some (.int .i64 bd))) (by kernel_rfl) ?_ (fun hHeld => ?_)
            · exact ⟨i0, i1, i2⟩
            refine wpAnyH_take (i := 0) (v := ?_) rfl (by kernel_rfl) (by kernel_rfl) (by kernel_rfl) (fun _ _ _ h => h) (Or.inl ⟨by rfl, ?_⟩) (by assumption) ?_
            rotate_left
            · intro w' hSw; (try dsimp only at hSw); go_simp; (try with_reducible rfl)
            (try simp only [Act.put, List.setIfInBounds_toArray, List.set_cons_zero, List.set_cons_succ, List.getElem_toArray, List.getElem_cons_succ, List.getElem_cons_zero])
            refine wpAnyH_take (i := 1) (v := ?_) rfl (by kernel_rfl) (by kernel_rfl) (by kernel_rfl) (fun _ _ _ h => h) (Or.inl ⟨by rfl, ?_⟩) (by assumption) ?_
            rotate_left
            · intro w' hSw; (try dsimp only at hSw); go_simp; (try with_reducible rfl)
            (try simp only [Act.put, List.setIfInBounds_toArray, List.set_cons_zero, List.set_cons_succ, List.getElem_toArray, List.getElem_cons_succ, List.getElem_cons_zero])
            refine wpAnyH_take (i := 2) (v := ?_) rfl (by kernel_rfl) (by kernel_rfl) (by kernel_rfl) (fun _ _ _ h => h) (Or.inl ⟨by rfl, ?_⟩) (by assumption) ?_
            rotate_left
            · intro w' hSw; (try dsimp only at hSw); go_simp; (try with_reducible rfl)
            (try simp only [Act.put, List.setIfInBounds_toArray, List.set_cons_zero, List.set_cons_succ, List.getElem_toArray, List.getElem_cons_succ, List.getElem_cons_zero])
            refine wpAnyH_take (i := 3) (v := ?_) rfl (by kernel_rfl) (by kernel_rfl) (by kernel_rfl) (fun _ _ _ h => h) (Or.inl ⟨by rfl, ?_⟩) (by assumption) ?_
            rotate_left
            · intro w' hSw; (try dsimp only at hSw); go_simp; (try with_reducible rfl)
            (try simp only [Act.put, List.setIfInBounds_toArray, List.set_cons_zero, List.set_cons_succ, List.getElem_toArray, List.getElem_cons_succ, List.getElem_cons_zero])
            refine wpAnyH_take (i := 5) (v := ?_) rfl (by kernel_rfl) (by kernel_rfl) (by kernel_rfl) (fun _ _ _ h => h) (Or.inl ⟨by rfl, ?_⟩) (by assumption) ?_
            rotate_left
            · intro w' hSw; (try dsimp only at hSw); go_simp; (try with_reducible rfl)
            (try simp only [Act.put, List.setIfInBounds_toArray, List.set_cons_zero, List.set_cons_succ, List.getElem_toArray, List.getElem_cons_succ, List.getElem_cons_zero])
            refine wpAnyH_take (i := 6) (v := ?_) rfl (by kernel_rfl) (by kernel_rfl) (by kernel_rfl) (fun _ _ _ h => h) (Or.inl ⟨by rfl, ?_⟩) (by assumption) ?_
            rotate_left
            · intro w' hSw; (try dsimp only at hSw); go_simp; (try with_reducible rfl)
            (try simp only [Act.put, List.setIfInBounds_toArray, List.set_cons_zero, List.set_cons_succ, List.getElem_toArray, List.getElem_cons_succ, List.getElem_cons_zero])
            refine wpAnyH_take (i := 7) (v := ?_) rfl (by kernel_rfl) (by kernel_rfl) (by kernel_rfl) (fun _ _ _ h => h) (Or.inl ⟨by rfl, ?_⟩) (by assumption) ?_
            rotate_left
            · intro w' hSw; (try dsimp only at hSw); go_simp; (try with_reducible rfl)
            (try simp only [Act.put, List.setIfInBounds_toArray, List.set_cons_zero, List.set_cons_succ, List.getElem_toArray, List.getElem_cons_succ, List.getElem_cons_zero])
            refine wpAnyH_take (i := 8) (v := ?_) rfl (by kernel_rfl) (by kernel_rfl) (by kernel_rfl) (fun _ _ _ h => h) (Or.inl ⟨by rfl, ?_⟩) (by assumption) ?_
            rotate_left
            · intro w' hSw; (try dsimp only at hSw); go_simp; (try with_reducible rfl)
            (try simp only [Act.put, List.setIfInBounds_toArray, List.set_cons_zero, List.set_cons_succ, List.getElem_toArray, List.getElem_cons_succ, List.getElem_cons_zero])
            refine wpAnyH_ready (rs := [4]) (by kernel_rfl) (by simp) ?_
            refine AllReadyH.cons rfl (fun K hK => ?_) AllReadyH.nil
            go_simp
            (go_at_call 23; refine (hlc_last _ m' c' bd _ (by first | exact KV9 | exact KV9.drew)).mono ?_; rintro e w11 ⟨rfl, hb11⟩; have KX11 : Ints3 w11 (w.heap.size + 1) m' c' bd := (KX9.drew).below hb11 KX9.lt; have KV11 : Ints3 w11 w.heap.size m' c' bd := (KV9.drew).below hb11 KV9.lt; have HB11 : Below w.heap.size w w11 := Below.trans (show Below w.heap.size w _ from (by (repeat' (first | (with_reducible exact Below.refl _ _) | (with_reducible assumption) | (with_reducible refine Below.trans ?_ (Below.mono (by with_reducible assumption) ?_)) | (with_reducible refine Below.alloc ?_ ?_ _) | (with_reducible refine Below.setCell ?_ ?_ _) | (with_reducible refine below_drewN ?_ _) | (with_reducible refine Below.drew ?_) | go_size)))) (hb11.mono (Below.size (show Below w.heap.size w _ from (by (repeat' (first | (with_reducible exact Below.refl _ _) | (with_reducible assumption) | (with_reducible refine Below.trans ?_ (Below.mono (by with_reducible assumption) ?_)) | (with_reducible refine Below.alloc ?_ ?_ _) | (with_reducible refine Below.setCell ?_ ?_ _) | (with_reducible refine below_drewN ?_ _) | (with_reducible refine Below.drew ?_) | go_size)))))))
            (try dsimp only)
            refine hK.out _ _ ?_ (fun hHeld => ?_)
            · exact ⟨KX11.c0, KX11.c1, KX11.c2⟩
            clear hK K
            (try simp only [Act.put, List.setIfInBounds_toArray, List.set_cons_zero, List.set_cons_succ, List.getElem_toArray, List.getElem_cons_succ, List.getElem_cons_zero])
            refine wpAnyH_take (i := 9) (v := ?_) rfl (by kernel_rfl) (by kernel_rfl) (by kernel_rfl) (fun _ _ _ h => h) (Or.inl ⟨by rfl, ?_⟩) (by assumption) ?_
            rotate_left
            · intro w' hSw; (try dsimp only at hSw); go_simp; (try with_reducible rfl)
            (try simp only [Act.put, List.setIfInBounds_toArray, List.set_cons_zero, List.set_cons_succ, List.getElem_toArray, List.getElem_cons_succ, List.getElem_cons_zero])
            refine wpAnyH_take (i := 10) (v := ?_) rfl (by kernel_rfl) (by kernel_rfl) (by kernel_rfl) (fun _ _ _ h => h) (Or.inl ⟨by rfl, ?_⟩) (by assumption) ?_
            rotate_left
            · intro w' hSw; (try dsimp only at hSw); go_simp; (try with_reducible rfl)
            (try simp only [Act.put, List.setIfInBounds_toArray, List.set_cons_zero, List.set_cons_succ, List.getElem_toArray, List.getElem_cons_succ, List.getElem_cons_zero])
            refine wpAnyH_take (i := 11) (v := ?_) rfl (by kernel_rfl) (by kernel_rfl) (by kernel_rfl) (fun _ _ _ h => h) (Or.inl ⟨by rfl, ?_⟩) (by assumption) ?_
            rotate_left
            · intro w' hSw; (try dsimp only at hSw); go_simp; (try with_reducible rfl)
            (try simp only [Act.put, List.setIfInBounds_toArray, List.set_cons_zero, List.set_cons_succ, List.getElem_toArray, List.getElem_cons_succ, List.getElem_cons_zero])
            refine wpAnyH_take (i := 12) (v := ?_) rfl (by kernel_rfl) (by kernel_rfl) (by kernel_rfl) (fun _ _ _ h => h) (Or.inl ⟨by rfl, ?_⟩) (by assumption) ?_
            rotate_left
            · intro w' hSw; (try dsimp only at hSw); go_simp; (try with_reducible rfl)
            (try simp only [Act.put, List.setIfInBounds_toArray, List.set_cons_zero, List.set_cons_succ, List.getElem_toArray, List.getElem_cons_succ, List.getElem_cons_zero])
            refine wpAnyH_take (i := 14) (v := ?_) rfl (by kernel_rfl) (by kernel_rfl) (by kernel_rfl) (fun _ _ _ h => h) (Or.inl ⟨by rfl, ?_⟩) (by assumption) ?_
            rotate_left
            · intro w' hSw; (try dsimp only at hSw); go_simp; (try with_reducible rfl)
            (try simp only [Act.put, List.setIfInBounds_toArray, List.set_cons_zero, List.set_cons_succ, List.getElem_toArray, List.getElem_cons_succ, List.getElem_cons_zero])
            refine wpAnyH_take (i := 15) (v := ?_) rfl (by kernel_rfl) (by kernel_rfl) (by kernel_rfl) (fun _ _ _ h => h) (Or.inl ⟨by rfl, ?_⟩) (by assumption) ?_
            rotate_left
            · intro w' hSw; (try dsimp only at hSw); go_simp; (try with_reducible rfl)
            (try simp only [Act.put, List.setIfInBounds_toArray, List.set_cons_zero, List.set_cons_succ, List.getElem_toArray, List.getElem_cons_succ, List.getElem_cons_zero])
            refine wpAnyH_take (i := 16) (v := ?_) rfl (by kernel_rfl) (by kernel_rfl) (by kernel_rfl) (fun _ _ _ h => h) (Or.inl ⟨by rfl, ?_⟩) (by assumption) ?_
            rotate_left
            · intro w' hSw; (try dsimp only at hSw); go_simp; (try with_reducible rfl)
            (try simp only [Act.put, List.setIfInBounds_toArray, List.set_cons_zero, List.set_cons_succ, List.getElem_toArray, List.getElem_cons_succ, List.getElem_cons_zero])
            refine wpAnyH_take (i := 17) (v := ?_) rfl (by kernel_rfl) (by kernel_rfl) (by kernel_rfl) (fun _ _ _ h => h) (Or.inl ⟨by rfl, ?_⟩) (by assumption) ?_
            rotate_left
            · intro w' hSw; (try dsimp only at hSw); go_simp; (try with_reducible rfl)
            (try simp only [Act.put, List.setIfInBounds_toArray, List.set_cons_zero, List.set_cons_succ, List.getElem_toArray, List.getElem_cons_succ, List.getElem_cons_zero])
            refine wpAnyH_ready (rs := [13]) (by kernel_rfl) (by simp) ?_
            refine AllReadyH.cons rfl (fun K hK => ?_) AllReadyH.nil
            go_simp
            (go_at_call 24; refine (hlc_bound _ m' c' bd _ KV11).mono ?_; rintro e w' ⟨rfl, rfl⟩)
            (try dsimp only)
            refine hK.out _ _ ?_ (fun hHeld => ?_)
            · exact ⟨KX11.c0, KX11.c1, KX11.c2⟩
            clear hK K
            (try simp only [Act.put, List.setIfInBounds_toArray, List.set_cons_zero, List.set_cons_succ, List.getElem_toArray, List.getElem_cons_succ, List.getElem_cons_zero])
            refine wpAnyH_take (i := 18) (v := ?_) rfl (by kernel_rfl) (by kernel_rfl) (by kernel_rfl) (fun _ _ _ h => h) (Or.inl ⟨by rfl, ?_⟩) (by assumption) ?_
            rotate_left
            · intro w' hSw; (try dsimp only at hSw); go_simp; (try with_reducible rfl)
            (try simp only [Act.put, List.setIfInBounds_toArray, List.set_cons_zero, List.set_cons_succ, List.getElem_toArray, List.getElem_cons_succ, List.getElem_cons_zero])
            refine wpAnyH_take (i := 19) (v := ?_) rfl (by kernel_rfl) (by kernel_rfl) (by kernel_rfl) (fun _ _ _ h => h) (Or.inl ⟨by rfl, ?_⟩) (by assumption) ?_
            rotate_left
            · intro w' hSw; (try dsimp only at hSw); go_simp; (try with_reducible rfl)
            (try simp only [Act.put, List.setIfInBounds_toArray, List.set_cons_zero, List.set_cons_succ, List.getElem_toArray, List.getElem_cons_succ, List.getElem_cons_zero])
            refine wpAnyH_done (by kernel_rfl) ?_ _
            clear i0 i1 i2 i3 hb11
            go_wp2
            go_roundw
            case rel => exact ⟨k + 1, m', c', bd, by omega, by omega, by go_num, hs', hbd', KV11, KX11, HB11⟩
            case measure => simp [intOf]; omega
        ·
          go_simp
          (try dsimp only)
          refine hK.out _ _ ?_ (fun hHeld => ?_)
          · exact ⟨(World.cell?_alloc_past (.cells #[.int .i64 x, .int .i64 y, .int .i64 ox, .int .i64 oy] 32) wr.heap.size 1 lla).trans q1a, (World.cell?_alloc_past (.cells #[.int .i64 x, .int .i64 y, .int .i64 ox, .int .i64 oy] 32) wr.heap.size 2 lla).trans q2a, (World.cell?_alloc_past (.cells #[.int .i64 x, .int .i64 y, .int .i64 ox, .int .i64 oy] 32) wr.heap.size 3 lla).trans q3a, (World.cell?_alloc_past (.cells #[.int .i64 x, .int .i64 y, .int .i64 ox, .int .i64 oy] 32) wr.heap.size 4 lla).trans q4a, (World.cell?_alloc_past (.cells #[.int .i64 x, .int .i64 y, .int .i64 ox, .int .i64 oy] 32) wr.heap.size 5 lla).trans q5a⟩
          clear hK K
          (try simp only [Act.put, List.setIfInBounds_toArray, List.set_cons_zero, List.set_cons_succ, List.getElem_toArray, List.getElem_cons_succ, List.getElem_cons_zero])
          have KVb : Ints3 (Wa.alloc (.cells #[.int .i64 x, .int .i64 y, .int .i64 ox, .int .i64 oy] 32)).drew w.heap.size _ _ _ := (KVa.alloc (.cells #[.int .i64 x, .int .i64 y, .int .i64 ox, .int .i64 oy] 32)).drew
          have KXb : Ints3 (Wa.alloc (.cells #[.int .i64 x, .int .i64 y, .int .i64 ox, .int .i64 oy] 32)).drew (w.heap.size + 1) m c bd := (KXa.alloc (.cells #[.int .i64 x, .int .i64 y, .int .i64 ox, .int .i64 oy] 32)).drew
          have HB0b : Below w.heap.size w (Wa.alloc (.cells #[.int .i64 x, .int .i64 y, .int .i64 ox, .int .i64 oy] 32)).drew := (HB0a.alloc HB0a.size (.cells #[.int .i64 x, .int .i64 y, .int .i64 ox, .int .i64 oy] 32)).drew
          have fl20 : FlatAt (Wa.alloc (.cells #[.int .i64 x, .int .i64 y, .int .i64 ox, .int .i64 oy] 32)) (some ⟨Wa.heap.size, 0, none⟩) 2 2 (z4 x y ox oy) := flat2 (new_cell Wa rfl _ _ 0) (new_cell Wa rfl _ _ 1) (new_cell Wa rfl _ _ 2) (new_cell Wa rfl _ _ 3) bx by' box boy (by simp)
          have fl2 : FlatAt (Wa.alloc (.cells #[.int .i64 x, .int .i64 y, .int .i64 ox, .int .i64 oy] 32)).drew (some ⟨Wa.heap.size, 0, none⟩) 2 2 (z4 x y ox oy) := fl20
          have q1b : World.cell? (Wa.alloc (.cells #[.int .i64 x, .int .i64 y, .int .i64 ox, .int .i64 oy] 32)).drew ⟨wr.heap.size, 1, none⟩ = _ := (World.cell?_alloc_past (.cells #[.int .i64 x, .int .i64 y, .int .i64 ox, .int .i64 oy] 32) wr.heap.size 1 lla).trans q1a
          have q2b : World.cell? (Wa.alloc (.cells #[.int .i64 x, .int .i64 y, .int .i64 ox, .int .i64 oy] 32)).drew ⟨wr.heap.size, 2, none⟩ = _ := (World.cell?_alloc_past (.cells #[.int .i64 x, .int .i64 y, .int .i64 ox, .int .i64 oy] 32) wr.heap.size 2 lla).trans q2a
          have q3b : World.cell? (Wa.alloc (.cells #[.int .i64 x, .int .i64 y, .int .i64 ox, .int .i64 oy] 32)).drew ⟨wr.heap.size, 3, none⟩ = _ := (World.cell?_alloc_past (.cells #[.int .i64 x, .int .i64 y, .int .i64 ox, .int .i64 oy] 32) wr.heap.size 3 lla).trans q3a
          have q4b : World.cell? (Wa.alloc (.cells #[.int .i64 x, .int .i64 y, .int .i64 ox, .int .i64 oy] 32)).drew ⟨wr.heap.size, 4, none⟩ = _ := (World.cell?_alloc_past (.cells #[.int .i64 x, .int .i64 y, .int .i64 ox, .int .i64 oy] 32) wr.heap.size 4 lla).trans q4a
          have q5b : World.cell? (Wa.alloc (.cells #[.int .i64 x, .int .i64 y, .int .i64 ox, .int .i64 oy] 32)).drew ⟨wr.heap.size, 5, none⟩ = _ := (World.cell?_alloc_past (.cells #[.int .i64 x, .int .i64 y, .int .i64 ox, .int .i64 oy] 32) wr.heap.size 5 lla).trans q5a
          have llb : wr.heap.size < (Wa.alloc (.cells #[.int .i64 x, .int .i64 y, .int .i64 ox, .int .i64 oy] 32)).drew.heap.size := by simp; omega
          have nsb : wr.heap.size < Wa.heap.size := lla
          clear fl20
          generalize hWb : (Wa.alloc (.cells #[.int .i64 x, .int .i64 y, .int .i64 ox, .int .i64 oy] 32)).drew = Wb at *
          have HWb := Lib.hid hWb
          clear hWb
          refine wpAnyH_ready (rs := [7]) (by kernel_rfl) (by simp) ?_
          refine AllReadyH.cons rfl (fun K hK => ?_) (AllReadyH.nil)
          go_simp
          (try dsimp only)
          refine hK.out _ _ ?_ (fun hHeld => ?_)
          · exact ⟨(World.cell?_alloc_past (.cells #[.int .i64 x, .int .i64 y, .int .i64 ox, .int .i64 oy] 32) wr.heap.size 1 llb).trans q1b, (World.cell?_alloc_past (.cells #[.int .i64 x, .int .i64 y, .int .i64 ox, .int .i64 oy] 32) wr.heap.size 2 llb).trans q2b, (World.cell?_alloc_past (.cells #[.int .i64 x, .int .i64 y, .int .i64 ox, .int .i64 oy] 32) wr.heap.size 3 llb).trans q3b, (World.cell?_alloc_past (.cells #[.int .i64 x, .int .i64 y, .int .i64 ox, .int .i64 oy] 32) wr.heap.size 4 llb).trans q4b, (World.cell?_alloc_past (.cells #[.int .i64 x, .int .i64 y, .int .i64 ox, .int .i64 oy] 32) wr.heap.size 5 llb).trans q5b⟩
          clear hK K
          (try simp only [Act.put, List.setIfInBounds_toArray, List.set_cons_zero, List.set_cons_succ, List.getElem_toArray, List.getElem_cons_succ, List.getElem_cons_zero])
          have KVc : Ints3 (Wb.alloc (.cells #[.int .i64 x, .int .i64 y, .int .i64 ox, .int .i64 oy] 32)) w.heap.size _ _ _ := (KVb.alloc (.cells #[.int .i64 x, .int .i64 y, .int .i64 ox, .int .i64 oy] 32))
          have KXc : Ints3 (Wb.alloc (.cells #[.int .i64 x, .int .i64 y, .int .i64 ox, .int .i64 oy] 32)) (w.heap.size + 1) m c bd := (KXb.alloc (.cells #[.int .i64 x, .int .i64 y, .int .i64 ox, .int .i64 oy] 32))
          have HB0c : Below w.heap.size w (Wb.alloc (.cells #[.int .i64 x, .int .i64 y, .int .i64 ox, .int .i64 oy] 32)) := (HB0b.alloc HB0b.size (.cells #[.int .i64 x, .int .i64 y, .int .i64 ox, .int .i64 oy] 32))
          have fl10 : FlatAt (Wb.alloc (.cells #[.int .i64 x, .int .i64 y, .int .i64 ox, .int .i64 oy] 32)) (some ⟨Wb.heap.size, 0, none⟩) 2 2 (z4 x y ox oy) := flat2 (new_cell Wb rfl _ _ 0) (new_cell Wb rfl _ _ 1) (new_cell Wb rfl _ _ 2) (new_cell Wb rfl _ _ 3) bx by' box boy (by simp)
          have fl1 : FlatAt (Wb.alloc (.cells #[.int .i64 x, .int .i64 y, .int .i64 ox, .int .i64 oy] 32)) (some ⟨Wb.heap.size, 0, none⟩) 2 2 (z4 x y ox oy) := fl10
          have q1c : World.cell? (Wb.alloc (.cells #[.int .i64 x, .int .i64 y, .int .i64 ox, .int .i64 oy] 32)) ⟨wr.heap.size, 1, none⟩ = _ := (World.cell?_alloc_past (.cells #[.int .i64 x, .int .i64 y, .int .i64 ox, .int .i64 oy] 32) wr.heap.size 1 llb).trans q1b
          have q2c : World.cell? (Wb.alloc (.cells #[.int .i64 x, .int .i64 y, .int .i64 ox, .int .i64 oy] 32)) ⟨wr.heap.size, 2, none⟩ = _ := (World.cell?_alloc_past (.cells #[.int .i64 x, .int .i64 y, .int .i64 ox, .int .i64 oy] 32) wr.heap.size 2 llb).trans q2b
          have q3c : World.cell? (Wb.alloc (.cells #[.int .i64 x, .int .i64 y, .int .i64 ox, .int .i64 oy] 32)) ⟨wr.heap.size, 3, none⟩ = _ := (World.cell?_alloc_past (.cells #[.int .i64 x, .int .i64 y, .int .i64 ox, .int .i64 oy] 32) wr.heap.size 3 llb).trans q3b
          have q4c : World.cell? (Wb.alloc (.cells #[.int .i64 x, .int .i64 y, .int .i64 ox, .int .i64 oy] 32)) ⟨wr.heap.size, 4, none⟩ = _ := (World.cell?_alloc_past (.cells #[.int .i64 x, .int .i64 y, .int .i64 ox, .int .i64 oy] 32) wr.heap.size 4 llb).trans q4b
          have q5c : World.cell? (Wb.alloc (.cells #[.int .i64 x, .int .i64 y, .int .i64 ox, .int .i64 oy] 32)) ⟨wr.heap.size, 5, none⟩ = _ := (World.cell?_alloc_past (.cells #[.int .i64 x, .int .i64 y, .int .i64 ox, .int .i64 oy] 32) wr.heap.size 5 llb).trans q5b
          have llc : wr.heap.size < (Wb.alloc (.cells #[.int .i64 x, .int .i64 y, .int .i64 ox, .int .i64 oy] 32)).heap.size := by simp; omega
          have nsc : wr.heap.size < Wb.heap.size := llb
          clear fl10
          generalize hWc : (Wb.alloc (.cells #[.int .i64 x, .int .i64 y, .int .i64 ox, .int .i64 oy] 32)) = Wc at *
          have HWc := Lib.hid hWc
          clear hWc
          have fl2' : FlatAt Wc _ 2 2 (z4 x y ox oy) := HWc.out ▸ fl2.alloc (.cells #[.int .i64 x, .int .i64 y, .int .i64 ox, .int .i64 oy] 32)
          refine wpAnyH_ready (rs := [8]) (by kernel_rfl) (by simp) ?_
          refine AllReadyH.cons rfl (fun K hK => ?_) (AllReadyH.nil)
          go_simp
          (go_at_call 19; refine (HS1.out _ _ _ _ KVc fl1 (by omega)).mono ?_; rintro e Wd ⟨rfl, ho, KVd⟩)
          (try dsimp only)
          have KXd := KXc.only ho (by omega)
          have HB0d : Below w.heap.size w Wd := HB0c.trans (ho.below (Nat.le_refl _) HB0c.size)
          have q1d := (ho.cell wr.heap.size 1 llc nab).trans q1c
          have q2d := (ho.cell wr.heap.size 2 llc nab).trans q2c
          have q3d := (ho.cell wr.heap.size 3 llc nab).trans q3c
          have q4d := (ho.cell wr.heap.size 4 llc nab).trans q4c
          have q5d := (ho.cell wr.heap.size 5 llc nab).trans q5c
          have lld : wr.heap.size < Wd.heap.size := Nat.lt_of_lt_of_le llc ho.size
          refine hK.out _ _ ?_ (fun hHeld => ?_)
          · exact ⟨q1d, q2d, q3d, q4d, q5d⟩
          clear hK K
          (try simp only [Act.put, List.setIfInBounds_toArray, List.set_cons_zero, List.set_cons_succ, List.getElem_toArray, List.getElem_cons_succ, List.getElem_cons_zero])
          have fl2'' := fl2'.only ho (by omega)
          refine wpAnyH_ready (rs := [17]) (by kernel_rfl) (by simp) ?_
          refine AllReadyH.cons rfl (fun K hK => ?_) (AllReadyH.nil)
          go_simp
          (go_at_call 20; refine (HS2.out _ _ _ _ KXd fl2'').mono ?_; rintro e w9 ⟨rfl, ho9, KX9⟩)
          (try dsimp only)
          have KV9 := KVd.only ho9 (by omega)
          have HB9 : Below w.heap.size w w9 := HB0d.trans (ho9.below (by omega) HB0d.size)
          refine hK.out _ _ ?_ (fun hHeld => ?_)
          · exact ⟨(ho9.cell wr.heap.size 1 lld nac).trans q1d, (ho9.cell wr.heap.size 2 lld nac).trans q2d, (ho9.cell wr.heap.size 3 lld nac).trans q3d, (ho9.cell wr.heap.size 4 lld nac).trans q4d, (ho9.cell wr.heap.size 5 lld nac).trans q5d⟩
          clear hK K
          (try simp only [Act.put, List.setIfInBounds_toArray, List.set_cons_zero, List.set_cons_succ, List.getElem_toArray, List.getElem_cons_succ, List.getElem_cons_zero])
          refine wpAnyH_take (i := 18) (v := ?_) rfl (by kernel_rfl) (by kernel_rfl) (by kernel_rfl) (fun _ _ _ h => h) (Or.inl ⟨by rfl, ?_⟩) (by assumption) ?_
          rotate_left
          · intro w' hSw; (try dsimp only at hSw); go_simp; (try with_reducible rfl)
          (try simp only [Act.put, List.setIfInBounds_toArray, List.set_cons_zero, List.set_cons_succ, List.getElem_toArray, List.getElem_cons_succ, List.getElem_cons_zero])
          refine wpAnyH_take (i := 19) (v := ?_) rfl (by kernel_rfl) (by kernel_rfl) (by kernel_rfl) (fun _ _ _ h => h) (Or.inl ⟨by rfl, ?_⟩) (by assumption) ?_
          rotate_left
          · intro w' hSw; (try dsimp only at hSw); go_simp; (try with_reducible rfl)
          (try simp only [Act.put, List.setIfInBounds_toArray, List.set_cons_zero, List.set_cons_succ, List.getElem_toArray, List.getElem_cons_succ, List.getElem_cons_zero])
          refine wpAnyH_done (by kernel_rfl) ?_ _
          have i0 := KX9.c0
          have i1 := KX9.c1
          have i2 := KX9.c2
          have i3 := KX9.lt
          go_wp2_with fail
          refine wp_region_held_drew (S := (fun w' => w'.cell? ⟨w.heap.size + 1, 0, none⟩ = some (.int .i64 m') ∧ w'.cell? ⟨w.heap.size + 1, 1, none⟩ = some (.int .i64 c') ∧ w'.cell? ⟨w.heap.size + 1, 2, none⟩ = some (.int .i64 bd))) (by kernel_rfl) ?_ (fun hHeld => ?_)
          · exact ⟨i0, i1, i2⟩
          refine wpAnyH_take (i := 0) (v := ?_) rfl (by kernel_rfl) (by kernel_rfl) (by kernel_rfl) (fun _ _ _ h => h) (Or.inl ⟨by rfl, ?_⟩) (by assumption) ?_
          rotate_left
          · intro w' hSw; (try dsimp only at hSw); go_simp; (try with_reducible rfl)
          (try simp only [Act.put, List.setIfInBounds_toArray, List.set_cons_zero, List.set_cons_succ, List.getElem_toArray, List.getElem_cons_succ, List.getElem_cons_zero])
          refine wpAnyH_take (i := 1) (v := ?_) rfl (by kernel_rfl) (by kernel_rfl) (by kernel_rfl) (fun _ _ _ h => h) (Or.inl ⟨by rfl, ?_⟩) (by assumption) ?_
          rotate_left
          · intro w' hSw; (try dsimp only at hSw); go_simp; (try with_reducible rfl)
          (try simp only [Act.put, List.setIfInBounds_toArray, List.set_cons_zero, List.set_cons_succ, List.getElem_toArray, List.getElem_cons_succ, List.getElem_cons_zero])
          refine wpAnyH_take (i := 2) (v := ?_) rfl (by kernel_rfl) (by kernel_rfl) (by kernel_rfl) (fun _ _ _ h => h) (Or.inl ⟨by rfl, ?_⟩) (by assumption) ?_
          rotate_left
          · intro w' hSw; (try dsimp only at hSw); go_simp; (try with_reducible rfl)
          (try simp only [Act.put, List.setIfInBounds_toArray, List.set_cons_zero, List.set_cons_succ, List.getElem_toArray, List.getElem_cons_succ, List.getElem_cons_zero])
          refine wpAnyH_take (i := 3) (v := ?_) rfl (by kernel_rfl) (by kernel_rfl) (by kernel_rfl) (fun _ _ _ h => h) (Or.inl ⟨by rfl, ?_⟩) (by assumption) ?_
          rotate_left
          · intro w' hSw; (try dsimp only at hSw); go_simp; (try with_reducible rfl)
          (try simp only [Act.put, List.setIfInBounds_toArray, List.set_cons_zero, List.set_cons_succ, List.getElem_toArray, List.getElem_cons_succ, List.getElem_cons_zero])
          refine wpAnyH_take (i := 5) (v := ?_) rfl (by kernel_rfl) (by kernel_rfl) (by kernel_rfl) (fun _ _ _ h => h) (Or.inl ⟨by rfl, ?_⟩) (by assumption) ?_
          rotate_left
          · intro w' hSw; (try dsimp only at hSw); go_simp; (try with_reducible rfl)
          (try simp only [Act.put, List.setIfInBounds_toArray, List.set_cons_zero, List.set_cons_succ, List.getElem_toArray, List.getElem_cons_succ, List.getElem_cons_zero])
          refine wpAnyH_take (i := 6) (v := ?_) rfl (by kernel_rfl) (by kernel_rfl) (by kernel_rfl) (fun _ _ _ h => h) (Or.inl ⟨by rfl, ?_⟩) (by assumption) ?_
          rotate_left
          · intro w' hSw; (try dsimp only at hSw); go_simp; (try with_reducible rfl)
          (try simp only [Act.put, List.setIfInBounds_toArray, List.set_cons_zero, List.set_cons_succ, List.getElem_toArray, List.getElem_cons_succ, List.getElem_cons_zero])
          refine wpAnyH_take (i := 7) (v := ?_) rfl (by kernel_rfl) (by kernel_rfl) (by kernel_rfl) (fun _ _ _ h => h) (Or.inl ⟨by rfl, ?_⟩) (by assumption) ?_
          rotate_left
          · intro w' hSw; (try dsimp only at hSw); go_simp; (try with_reducible rfl)
          (try simp only [Act.put, List.setIfInBounds_toArray, List.set_cons_zero, List.set_cons_succ, List.getElem_toArray, List.getElem_cons_succ, List.getElem_cons_zero])
          refine wpAnyH_take (i := 8) (v := ?_) rfl (by kernel_rfl) (by kernel_rfl) (by kernel_rfl) (fun _ _ _ h => h) (Or.inl ⟨by rfl, ?_⟩) (by assumption) ?_
          rotate_left
          · intro w' hSw; (try dsimp only at hSw); go_simp; (try with_reducible rfl)
          (try simp only [Act.put, List.setIfInBounds_toArray, List.set_cons_zero, List.set_cons_succ, List.getElem_toArray, List.getElem_cons_succ, List.getElem_cons_zero])
          refine wpAnyH_ready (rs := [4]) (by kernel_rfl) (by simp) ?_
          refine AllReadyH.cons rfl (fun K hK => ?_) AllReadyH.nil
          go_simp
          (go_at_call 23; refine (hlc_last _ m' c' bd _ (by first | exact KV9 | exact KV9.drew)).mono ?_; rintro e w11 ⟨rfl, hb11⟩; have KX11 : Ints3 w11 (w.heap.size + 1) m' c' bd := (KX9.drew).below hb11 KX9.lt; have KV11 : Ints3 w11 w.heap.size m' c' bd := (KV9.drew).below hb11 KV9.lt; have HB11 : Below w.heap.size w w11 := Below.trans (show Below w.heap.size w _ from (by (repeat' (first | (with_reducible exact Below.refl _ _) | (with_reducible assumption) | (with_reducible refine Below.trans ?_ (Below.mono (by with_reducible assumption) ?_)) | (with_reducible refine Below.alloc ?_ ?_ _) | (with_reducible refine Below.setCell ?_ ?_ _) | (with_reducible refine below_drewN ?_ _) | (with_reducible refine Below.drew ?_) | go_size)))) (hb11.mono (Below.size (show Below w.heap.size w _ from (by (repeat' (first | (with_reducible exact Below.refl _ _) | (with_reducible assumption) | (with_reducible refine Below.trans ?_ (Below.mono (by with_reducible assumption) ?_)) | (with_reducible refine Below.alloc ?_ ?_ _) | (with_reducible refine Below.setCell ?_ ?_ _) | (with_reducible refine below_drewN ?_ _) | (with_reducible refine Below.drew ?_) | go_size)))))))
          (try dsimp only)
          refine hK.out _ _ ?_ (fun hHeld => ?_)
          · exact ⟨KX11.c0, KX11.c1, KX11.c2⟩
          clear hK K
          (try simp only [Act.put, List.setIfInBounds_toArray, List.set_cons_zero, List.set_cons_succ, List.getElem_toArray, List.getElem_cons_succ, List.getElem_cons_zero])
          refine wpAnyH_take (i := 9) (v := ?_) rfl (by kernel_rfl) (by kernel_rfl) (by kernel_rfl) (fun _ _ _ h => h) (Or.inl ⟨by rfl, ?_⟩) (by assumption) ?_
          rotate_left
          · intro w' hSw; (try dsimp only at hSw); go_simp; (try with_reducible rfl)
          (try simp only [Act.put, List.setIfInBounds_toArray, List.set_cons_zero, List.set_cons_succ, List.getElem_toArray, List.getElem_cons_succ, List.getElem_cons_zero])
          refine wpAnyH_take (i := 10) (v := ?_) rfl (by kernel_rfl) (by kernel_rfl) (by kernel_rfl) (fun _ _ _ h => h) (Or.inl ⟨by rfl, ?_⟩) (by assumption) ?_
          rotate_left
          · intro w' hSw; (try dsimp only at hSw); go_simp; (try with_reducible rfl)
          (try simp only [Act.put, List.setIfInBounds_toArray, List.set_cons_zero, List.set_cons_succ, List.getElem_toArray, List.getElem_cons_succ, List.getElem_cons_zero])
          refine wpAnyH_take (i := 11) (v := ?_) rfl (by kernel_rfl) (by kernel_rfl) (by kernel_rfl) (fun _ _ _ h => h) (Or.inl ⟨by rfl, ?_⟩) (by assumption) ?_
          rotate_left
          · intro w' hSw; (try dsimp only at hSw); go_simp; (try with_reducible rfl)
          (try simp only [Act.put, List.setIfInBounds_toArray, List.set_cons_zero, List.set_cons_succ, List.getElem_toArray, List.getElem_cons_succ, List.getElem_cons_zero])
          refine wpAnyH_take (i := 12) (v := ?_) rfl (by kernel_rfl) (by kernel_rfl) (by kernel_rfl) (fun _ _ _ h => h) (Or.inl ⟨by rfl, ?_⟩) (by assumption) ?_
          rotate_left
          · intro w' hSw; (try dsimp only at hSw); go_simp; (try with_reducible rfl)
          (try simp only [Act.put, List.setIfInBounds_toArray, List.set_cons_zero, List.set_cons_succ, List.getElem_toArray, List.getElem_cons_succ, List.getElem_cons_zero])
          refine wpAnyH_take (i := 14) (v := ?_) rfl (by kernel_rfl) (by kernel_rfl) (by kernel_rfl) (fun _ _ _ h => h) (Or.inl ⟨by rfl, ?_⟩) (by assumption) ?_
          rotate_left
          · intro w' hSw; (try dsimp only at hSw); go_simp; (try with_reducible rfl)
          (try simp only [Act.put, List.setIfInBounds_toArray, List.set_cons_zero, List.set_cons_succ, List.getElem_toArray, List.getElem_cons_succ, List.getElem_cons_zero])
          refine wpAnyH_take (i := 15) (v := ?_) rfl (by kernel_rfl) (by kernel_rfl) (by kernel_rfl) (fun _ _ _ h => h) (Or.inl ⟨by rfl, ?_⟩) (by assumption) ?_
          rotate_left
          · intro w' hSw; (try dsimp only at hSw); go_simp; (try with_reducible rfl)
          (try simp only [Act.put, List.setIfInBounds_toArray, List.set_cons_zero, List.set_cons_succ, List.getElem_toArray, List.getElem_cons_succ, List.getElem_cons_zero])
          refine wpAnyH_take (i := 16) (v := ?_) rfl (by kernel_rfl) (by kernel_rfl) (by kernel_rfl) (fun _ _ _ h => h) (Or.inl ⟨by rfl, ?_⟩) (by assumption) ?_
          rotate_left
          · intro w' hSw; (try dsimp only at hSw); go_simp; (try with_reducible rfl)
          (try simp only [Act.put, List.setIfInBounds_toArray, List.set_cons_zero, List.set_cons_succ, List.getElem_toArray, List.getElem_cons_succ, List.getElem_cons_zero])
          refine wpAnyH_take (i := 17) (v := ?_) rfl (by kernel_rfl) (by kernel_rfl) (by kernel_rfl) (fun _ _ _ h => h) (Or.inl ⟨by rfl, ?_⟩) (by assumption) ?_
          rotate_left
          · intro w' hSw; (try dsimp only at hSw); go_simp; (try with_reducible rfl)
          (try simp only [Act.put, List.setIfInBounds_toArray, List.set_cons_zero, List.set_cons_succ, List.getElem_toArray, List.getElem_cons_succ, List.getElem_cons_zero])
          refine wpAnyH_ready (rs := [13]) (by kernel_rfl) (by simp) ?_
          refine AllReadyH.cons rfl (fun K hK => ?_) AllReadyH.nil
          go_simp
          (go_at_call 24; refine (hlc_bound _ m' c' bd _ KV11).mono ?_; rintro e w' ⟨rfl, rfl⟩)
          (try dsimp only)
          refine hK.out _ _ ?_ (fun hHeld => ?_)
          · exact ⟨KX11.c0, KX11.c1, KX11.c2⟩
          clear hK K
          (try simp only [Act.put, List.setIfInBounds_toArray, List.set_cons_zero, List.set_cons_succ, List.getElem_toArray, List.getElem_cons_succ, List.getElem_cons_zero])
          refine wpAnyH_take (i := 18) (v := ?_) rfl (by kernel_rfl) (by kernel_rfl) (by kernel_rfl) (fun _ _ _ h => h) (Or.inl ⟨by rfl, ?_⟩) (by assumption) ?_
          rotate_left
          · intro w' hSw; (try dsimp only at hSw); go_simp; (try with_reducible rfl)
          (try simp only [Act.put, List.setIfInBounds_toArray, List.set_cons_zero, List.set_cons_succ, List.getElem_toArray, List.getElem_cons_succ, List.getElem_cons_zero])
          refine wpAnyH_take (i := 19) (v := ?_) rfl (by kernel_rfl) (by kernel_rfl) (by kernel_rfl) (fun _ _ _ h => h) (Or.inl ⟨by rfl, ?_⟩) (by assumption) ?_
          rotate_left
          · intro w' hSw; (try dsimp only at hSw); go_simp; (try with_reducible rfl)
          (try simp only [Act.put, List.setIfInBounds_toArray, List.set_cons_zero, List.set_cons_succ, List.getElem_toArray, List.getElem_cons_succ, List.getElem_cons_zero])
          refine wpAnyH_done (by kernel_rfl) ?_ _
          clear i0 i1 i2 i3 hb11
          go_wp2
          go_roundw
          case rel => exact ⟨k + 1, m', c', bd, by omega, by omega, by go_num, hs', hbd', KV11, KX11, HB11⟩
          case measure => simp [intOf]; omega
      · have hs' := hs
        have hbd' := hbd
        have e1 : (kd == 1) = false := by simpa using hk1
        have e2 : (kd == 2) = false := by simpa using hk3
        have e3 : (kd == 3) = false := by simpa using hk4
        have e4 : (kd == 4) = false := by simpa using hk5
        have KV9 := HKV.out
        have KX9 := HKX.out
        have HB9 := HBa.out
        clear hk1 hk3 hk4 hk5
        have i0 := KX9.c0
        have i1 := KX9.c1
        have i2 := KX9.c2
        have i3 := KX9.lt
        go_wp2_with fail
        refine wp_region_held_drew (S := (fun w' => w'.cell? ⟨w.heap.size + 1, 0, none⟩ = some (.int .i64 m) ∧ w'.cell? ⟨w.heap.size + 1, 1, none⟩ = some (.int .i64 c) ∧ w'.cell? ⟨w.heap.size + 1, 2, none⟩ = some (.int .i64 bd))) (by kernel_rfl) ?_ (fun hHeld => ?_)
        · exact ⟨i0, i1, i2⟩
        refine wpAnyH_take (i := 0) (v := ?_) rfl (by kernel_rfl) (by kernel_rfl) (by kernel_rfl) (fun _ _ _ h => h) (Or.inl ⟨by rfl, ?_⟩) (by assumption) ?_
        rotate_left
        · intro w' hSw; (try dsimp only at hSw); go_simp; (try with_reducible rfl)
        (try simp only [Act.put, List.setIfInBounds_toArray, List.set_cons_zero, List.set_cons_succ, List.getElem_toArray, List.getElem_cons_succ, List.getElem_cons_zero])
        refine wpAnyH_take (i := 1) (v := ?_) rfl (by kernel_rfl) (by kernel_rfl) (by kernel_rfl) (fun _ _ _ h => h) (Or.inl ⟨by rfl, ?_⟩) (by assumption) ?_
        rotate_left
        · intro w' hSw; (try dsimp only at hSw); go_simp; (try with_reducible rfl)
        (try simp only [Act.put, List.setIfInBounds_toArray, List.set_cons_zero, List.set_cons_succ, List.getElem_toArray, List.getElem_cons_succ, List.getElem_cons_zero])
        refine wpAnyH_take (i := 2) (v := ?_) rfl (by kernel_rfl) (by kernel_rfl) (by kernel_rfl) (fun _ _ _ h => h) (Or.inl ⟨by rfl, ?_⟩) (by assumption) ?_
        rotate_left
        · intro w' hSw; (try dsimp only at hSw); go_simp; (try with_reducible rfl)
        (try simp only [Act.put, List.setIfInBounds_toArray, List.set_cons_zero, List.set_cons_succ, List.getElem_toArray, List.getElem_cons_succ, List.getElem_cons_zero])
        refine wpAnyH_take (i := 3) (v := ?_) rfl (by kernel_rfl) (by kernel_rfl) (by kernel_rfl) (fun _ _ _ h => h) (Or.inl ⟨by rfl, ?_⟩) (by assumption) ?_
        rotate_left
        · intro w' hSw; (try dsimp only at hSw); go_simp; (try with_reducible rfl)
        (try simp only [Act.put, List.setIfInBounds_toArray, List.set_cons_zero, List.set_cons_succ, List.getElem_toArray, List.getElem_cons_succ, List.getElem_cons_zero])
        refine wpAnyH_take (i := 5) (v := ?_) rfl (by kernel_rfl) (by kernel_rfl) (by kernel_rfl) (fun _ _ _ h => h) (Or.inl ⟨by rfl, ?_⟩) (by assumption) ?_
        rotate_left
        · intro w' hSw; (try dsimp only at hSw); go_simp; (try with_reducible rfl)
        (try simp only [Act.put, List.setIfInBounds_toArray, List.set_cons_zero, List.set_cons_succ, List.getElem_toArray, List.getElem_cons_succ, List.getElem_cons_zero])
        refine wpAnyH_take (i := 6) (v := ?_) rfl (by kernel_rfl) (by kernel_rfl) (by kernel_rfl) (fun _ _ _ h => h) (Or.inl ⟨by rfl, ?_⟩) (by assumption) ?_
        rotate_left
        · intro w' hSw; (try dsimp only at hSw); go_simp; (try with_reducible rfl)
        (try simp only [Act.put, List.setIfInBounds_toArray, List.set_cons_zero, List.set_cons_succ, List.getElem_toArray, List.getElem_cons_succ, List.getElem_cons_zero])
        refine wpAnyH_take (i := 7) (v := ?_) rfl (by kernel_rfl) (by kernel_rfl) (by kernel_rfl) (fun _ _ _ h => h) (Or.inl ⟨by rfl, ?_⟩) (by assumption) ?_
        rotate_left
        · intro w' hSw; (try dsimp only at hSw); go_simp; (try with_reducible rfl)
        (try simp only [Act.put, List.setIfInBounds_toArray, List.set_cons_zero, List.set_cons_succ, List.getElem_toArray, List.getElem_cons_succ, List.getElem_cons_zero])
        refine wpAnyH_take (i := 8) (v := ?_) rfl (by kernel_rfl) (by kernel_rfl) (by kernel_rfl) (fun _ _ _ h => h) (Or.inl ⟨by rfl, ?_⟩) (by assumption) ?_
        rotate_left
        · intro w' hSw; (try dsimp only at hSw); go_simp; (try with_reducible rfl)
        (try simp only [Act.put, List.setIfInBounds_toArray, List.set_cons_zero, List.set_cons_succ, List.getElem_toArray, List.getElem_cons_succ, List.getElem_cons_zero])
        refine wpAnyH_ready (rs := [4]) (by kernel_rfl) (by simp) ?_
        refine AllReadyH.cons rfl (fun K hK => ?_) AllReadyH.nil
        go_simp
        (go_at_call 23; refine (hlc_last _ m c bd _ (by first | exact KV9 | exact KV9.drew)).mono ?_; rintro e w11 ⟨rfl, hb11⟩; have KX11 : Ints3 w11 (w.heap.size + 1) m c bd := (KX9.drew).below hb11 KX9.lt; have KV11 : Ints3 w11 w.heap.size m c bd := (KV9.drew).below hb11 KV9.lt; have HB11 : Below w.heap.size w w11 := Below.trans (show Below w.heap.size w _ from (by (repeat' (first | (with_reducible exact Below.refl _ _) | (with_reducible assumption) | (with_reducible refine Below.trans ?_ (Below.mono (by with_reducible assumption) ?_)) | (with_reducible refine Below.alloc ?_ ?_ _) | (with_reducible refine Below.setCell ?_ ?_ _) | (with_reducible refine below_drewN ?_ _) | (with_reducible refine Below.drew ?_) | go_size)))) (hb11.mono (Below.size (show Below w.heap.size w _ from (by (repeat' (first | (with_reducible exact Below.refl _ _) | (with_reducible assumption) | (with_reducible refine Below.trans ?_ (Below.mono (by with_reducible assumption) ?_)) | (with_reducible refine Below.alloc ?_ ?_ _) | (with_reducible refine Below.setCell ?_ ?_ _) | (with_reducible refine below_drewN ?_ _) | (with_reducible refine Below.drew ?_) | go_size)))))))
        (try dsimp only)
        refine hK.out _ _ ?_ (fun hHeld => ?_)
        · exact ⟨KX11.c0, KX11.c1, KX11.c2⟩
        clear hK K
        (try simp only [Act.put, List.setIfInBounds_toArray, List.set_cons_zero, List.set_cons_succ, List.getElem_toArray, List.getElem_cons_succ, List.getElem_cons_zero])
        refine wpAnyH_take (i := 9) (v := ?_) rfl (by kernel_rfl) (by kernel_rfl) (by kernel_rfl) (fun _ _ _ h => h) (Or.inl ⟨by rfl, ?_⟩) (by assumption) ?_
        rotate_left
        · intro w' hSw; (try dsimp only at hSw); go_simp; (try with_reducible rfl)
        (try simp only [Act.put, List.setIfInBounds_toArray, List.set_cons_zero, List.set_cons_succ, List.getElem_toArray, List.getElem_cons_succ, List.getElem_cons_zero])
        refine wpAnyH_take (i := 10) (v := ?_) rfl (by kernel_rfl) (by kernel_rfl) (by kernel_rfl) (fun _ _ _ h => h) (Or.inl ⟨by rfl, ?_⟩) (by assumption) ?_
        rotate_left
        · intro w' hSw; (try dsimp only at hSw); go_simp; (try with_reducible rfl)
        (try simp only [Act.put, List.setIfInBounds_toArray, List.set_cons_zero, List.set_cons_succ, List.getElem_toArray, List.getElem_cons_succ, List.getElem_cons_zero])
        refine wpAnyH_take (i := 11) (v := ?_) rfl (by kernel_rfl) (by kernel_rfl) (by kernel_rfl) (fun _ _ _ h => h) (Or.inl ⟨by rfl, ?_⟩) (by assumption) ?_
        rotate_left
        · intro w' hSw; (try dsimp only at hSw); go_simp; (try with_reducible rfl)
        (try simp only [Act.put, List.setIfInBounds_toArray, List.set_cons_zero, List.set_cons_succ, List.getElem_toArray, List.getElem_cons_succ, List.getElem_cons_zero])
        refine wpAnyH_take (i := 12) (v := ?_) rfl (by kernel_rfl) (by kernel_rfl) (by kernel_rfl) (fun _ _ _ h => h) (Or.inl ⟨by rfl, ?_⟩) (by assumption) ?_
        rotate_left
        · intro w' hSw; (try dsimp only at hSw); go_simp; (try with_reducible rfl)
        (try simp only [Act.put, List.setIfInBounds_toArray, List.set_cons_zero, List.set_cons_succ, List.getElem_toArray, List.getElem_cons_succ, List.getElem_cons_zero])
        refine wpAnyH_take (i := 14) (v := ?_) rfl (by kernel_rfl) (by kernel_rfl) (by kernel_rfl) (fun _ _ _ h => h) (Or.inl ⟨by rfl, ?_⟩) (by assumption) ?_
        rotate_left
        · intro w' hSw; (try dsimp only at hSw); go_simp; (try with_reducible rfl)
        (try simp only [Act.put, List.setIfInBounds_toArray, List.set_cons_zero, List.set_cons_succ, List.getElem_toArray, List.getElem_cons_succ, List.getElem_cons_zero])
        refine wpAnyH_take (i := 15) (v := ?_) rfl (by kernel_rfl) (by kernel_rfl) (by kernel_rfl) (fun _ _ _ h => h) (Or.inl ⟨by rfl, ?_⟩) (by assumption) ?_
        rotate_left
        · intro w' hSw; (try dsimp only at hSw); go_simp; (try with_reducible rfl)
        (try simp only [Act.put, List.setIfInBounds_toArray, List.set_cons_zero, List.set_cons_succ, List.getElem_toArray, List.getElem_cons_succ, List.getElem_cons_zero])
        refine wpAnyH_take (i := 16) (v := ?_) rfl (by kernel_rfl) (by kernel_rfl) (by kernel_rfl) (fun _ _ _ h => h) (Or.inl ⟨by rfl, ?_⟩) (by assumption) ?_
        rotate_left
        · intro w' hSw; (try dsimp only at hSw); go_simp; (try with_reducible rfl)
        (try simp only [Act.put, List.setIfInBounds_toArray, List.set_cons_zero, List.set_cons_succ, List.getElem_toArray, List.getElem_cons_succ, List.getElem_cons_zero])
        refine wpAnyH_take (i := 17) (v := ?_) rfl (by kernel_rfl) (by kernel_rfl) (by kernel_rfl) (fun _ _ _ h => h) (Or.inl ⟨by rfl, ?_⟩) (by assumption) ?_
        rotate_left
        · intro w' hSw; (try dsimp only at hSw); go_simp; (try with_reducible rfl)
        (try simp only [Act.put, List.setIfInBounds_toArray, List.set_cons_zero, List.set_cons_succ, List.getElem_toArray, List.getElem_cons_succ, List.getElem_cons_zero])
        refine wpAnyH_ready (rs := [13]) (by kernel_rfl) (by simp) ?_
        refine AllReadyH.cons rfl (fun K hK => ?_) AllReadyH.nil
        go_simp
        (go_at_call 24; refine (hlc_bound _ m c bd _ KV11).mono ?_; rintro e w' ⟨rfl, rfl⟩)
        (try dsimp only)
        refine hK.out _ _ ?_ (fun hHeld => ?_)
        · exact ⟨KX11.c0, KX11.c1, KX11.c2⟩
        clear hK K
        (try simp only [Act.put, List.setIfInBounds_toArray, List.set_cons_zero, List.set_cons_succ, List.getElem_toArray, List.getElem_cons_succ, List.getElem_cons_zero])
        refine wpAnyH_take (i := 18) (v := ?_) rfl (by kernel_rfl) (by kernel_rfl) (by kernel_rfl) (fun _ _ _ h => h) (Or.inl ⟨by rfl, ?_⟩) (by assumption) ?_
        rotate_left
        · intro w' hSw; (try dsimp only at hSw); go_simp; (try with_reducible rfl)
        (try simp only [Act.put, List.setIfInBounds_toArray, List.set_cons_zero, List.set_cons_succ, List.getElem_toArray, List.getElem_cons_succ, List.getElem_cons_zero])
        refine wpAnyH_take (i := 19) (v := ?_) rfl (by kernel_rfl) (by kernel_rfl) (by kernel_rfl) (fun _ _ _ h => h) (Or.inl ⟨by rfl, ?_⟩) (by assumption) ?_
        rotate_left
        · intro w' hSw; (try dsimp only at hSw); go_simp; (try with_reducible rfl)
        (try simp only [Act.put, List.setIfInBounds_toArray, List.set_cons_zero, List.set_cons_succ, List.getElem_toArray, List.getElem_cons_succ, List.getElem_cons_zero])
        refine wpAnyH_done (by kernel_rfl) ?_ _
        clear i0 i1 i2 i3 hb11
        go_wp2
        go_roundw
        case rel => exact ⟨k + 1, m, c, bd, by omega, by omega, by go_num, hs', hbd', KV11, KX11, HB11⟩
        case measure => simp [intOf]; omega
    · have lk : (k = L ∧ k ≤ 200) ∨ (k < L ∧ k = 200) := by omega
      have z3 := HB.size
      rcases lk with ⟨rfl, _⟩ | ⟨hl, rfl⟩
      · have d1 : decide ((k : Int) < (k : Int)) = false := by simp
        go_wp2_with (go_at_call 16; refine (known10 _).mono ?_; rintro e w5 ⟨rfl, hb5⟩; obtain ⟨hc5, hf5⟩ := bcell hb5; have hz5 := hb5.size; (try simp only [World.size_alloc, World.size_setCell, World.heap_drewN] at hb5 hc5 hf5 hz5); (try have ha05 : w.heap.size < w5.heap.size := by omega); (try have ha15 : w.heap.size + 1 < w5.heap.size := by omega); (try have ha25 : w.heap.size + 2 < w5.heap.size := by omega); (try have hal5 : w.heap.size ≤ w5.heap.size := by omega); (try have ham5 : w.heap.size < w5.heap.size + 2 := by omega); (try have hb05 : wr.heap.size < w5.heap.size := by omega); (try have hb15 : wr.heap.size + 1 < w5.heap.size := by omega); (try have hb25 : wr.heap.size + 2 < w5.heap.size := by omega); (try have hbl5 : wr.heap.size ≤ w5.heap.size := by omega); (try have hbm5 : wr.heap.size < w5.heap.size + 2 := by omega))
        go_ret
        go_light
        exact ⟨rfl, by (repeat' (first | (with_reducible exact Below.refl _ _) | (with_reducible assumption) | (with_reducible refine Below.trans ?_ (Below.mono (by with_reducible assumption) ?_)) | (with_reducible refine Below.alloc ?_ ?_ _) | (with_reducible refine Below.setCell ?_ ?_ _) | (with_reducible refine below_drewN ?_ _) | (with_reducible refine Below.drew ?_) | go_size))⟩
      · have d1 : decide (((200 : Nat) : Int) < (L : Int)) = true := by simp only [decide_eq_true_eq]; omega
        have d3 : (200 : Int) < (L : Int) := by omega
        go_wp2_with (go_at_call 16; refine (known10 _).mono ?_; rintro e w5 ⟨rfl, hb5⟩; obtain ⟨hc5, hf5⟩ := bcell hb5; have hz5 := hb5.size; (try simp only [World.size_alloc, World.size_setCell, World.heap_drewN] at hb5 hc5 hf5 hz5); (try have ha05 : w.heap.size < w5.heap.size := by omega); (try have ha15 : w.heap.size + 1 < w5.heap.size := by omega); (try have ha25 : w.heap.size + 2 < w5.heap.size := by omega); (try have hal5 : w.heap.size ≤ w5.heap.size := by omega); (try have ham5 : w.heap.size < w5.heap.size + 2 := by omega); (try have hb05 : wr.heap.size < w5.heap.size := by omega); (try have hb15 : wr.heap.size + 1 < w5.heap.size := by omega); (try have hb25 : wr.heap.size + 2 < w5.heap.size := by omega); (try have hbl5 : wr.heap.size ≤ w5.heap.size := by omega); (try have hbm5 : wr.heap.size < w5.heap.size + 2 := by omega))
        go_ret
        go_light
        exact ⟨rfl, by (repeat' (first | (with_reducible exact Below.refl _ _) | (with_reducible assumption) | (with_reducible refine Below.trans ?_ (Below.mono (by with_reducible assumption) ?_)) | (with_reducible refine Below.alloc ?_ ?_ _) | (with_reducible refine Below.setCell ?_ ?_ _) | (with_reducible refine below_drewN ?_ _) | (with_reducible refine Below.drew ?_) | go_size))⟩
set_option maxRecDepth 100000 in
theorem hlcPlays_lifted (os : Os) (started : os.Started) (H : Type) (enc : TypeId × Value → H) :
    ReturnsInHanded {} Try.checked os 3 .any (Rows.hlcPlaysSpec.pre6 enc Try.prog Try.f3 Rows.hlcPlaysRow.domain false) (Rows.hlcPlaysSpec.post enc Try.prog Try.f3 false true false false) := by
  refine returnsInHanded_of_change_sized (C := Try.checked) law_own started (by kernel_rfl) Try.func3
    (ChangeSpec.witness6 (enc := enc) (C := Try.checked) false ⟨#[], #[.int .i64 0, .slice none 0 0], []⟩ 8 (by kernel_rfl) (by kernel_rfl) (by kernel_rfl) (by kernel_rfl)) ?_
  intro W base args ds gs before hval0 hW hcnd hsz0 _
  have hval : ∀ (j : Nat) t v, Try.f3.params[j]? = some t → args[j]? = some v → Value.okWide Try.prog W .any base t v := hval0
  have hsz : (DataW.weightsEach Try.prog (Try.f3.params.toList ++ Rows.hlcPlaysSpec.plain.varTypes Try.prog) (ds ++ gs)).all (· ≤ reachBytes) = true := hsz0
  have hW' := hW
  obtain ⟨p, q, hA0, hV, rfl, hfz, hnd⟩ := hW
  have hA : DataW.TrodAll enc Try.prog W 0 (fun _ => true) true Try.f3.params.toList args.toList ds p := hA0
  rw [Try.params3] at hA hval hsz
  have hsame : (Rows.hlcPlaysSpec.fn H (ds ++ gs)).results = [.lit (.bool true)] ∧ (Rows.hlcPlaysSpec.fn H (ds ++ gs)).args = ds ∧ (Rows.hlcPlaysSpec.fn H (ds ++ gs)).vars = [] → ∀ W', Below W.heap.size W W' → Rows.hlcPlaysSpec.post enc Try.prog Try.f3 false true false false W args (.bool true) W' :=
    fun h W' hb => law_post (tb := 4) hW' law_laid (by kernel_rfl) rfl Try.underlying4 h.1 h.2.1 rfl h.2.2 hb
  obtain ⟨v0, vs0, d0, ds0, p0, q0, hargs, rfl, rfl, h0, r0⟩ := trodAll_cons hA
  obtain ⟨v1, vs1, d1, ds1, p1, q1, rfl, rfl, rfl, h1, r1⟩ := trodAll_cons r0
  obtain ⟨rfl, rfl, rfl⟩ := trodAll_nil r1
  obtain rfl : args = #[v0, v1] := by cases args; simp_all
  obtain ⟨rfl, rfl⟩ := trodVars_none hV
  have hpost := hsame ⟨rfl, rfl, rfl⟩
  clear hsame hA0 hval0 hsz0
  obtain ⟨a0, rfl, rfl, rfl, wf0⟩ := open_int Try.underlying3 (hval 0 3 v0 rfl rfl) h0
  obtain ⟨A, L, c, z, rfl, hn, hz⟩ := open_flat_slice (m := 6) Try.underlying22 (by kernel_rfl) (by kernel_rfl) (by omega) (hval 1 22 v1 rfl rfl) h1
  cases h : isMilliB a0
  · exact (hlcPlays_out a0 A L c W h).mono fun e W' ⟨he, hb⟩ => ⟨_, he, hpost W' hb⟩
  · exact (hlcPlays_in a0 A L c z W hz h).mono fun e W' ⟨he, hb⟩ => ⟨_, he, hpost W' hb⟩
theorem hlcPlays_holds : Rows.HlcPlaysSaid :=
  OpenClaim.holds_of_wide 3 Try.f3 rfl rfl rfl rfl rfl rfl rfl ⟨rfl, rfl, rfl, rfl, rfl⟩ rfl rfl rfl rfl rfl (by kernel_rfl) Try.func3 (by kernel_rfl)
    (of_decide_eq_true (by kernel_rfl)) (by unfold Func.isWrapper; first | (rw [if_pos (by decide +kernel)]; kernel_rfl) | (rw [if_neg (by decide +kernel)]; exact ⟨rfl, rfl⟩))
    (fun os started H enc _ => hlcPlays_lifted os started H enc)
end Go.Proofs.Ytmbopdabbegbiaa
