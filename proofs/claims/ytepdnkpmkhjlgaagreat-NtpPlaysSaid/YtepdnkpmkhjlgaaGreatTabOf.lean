/- A copy of a table's leaps; the reference's Of, of leaps that are a table. -/
import Derived.Test.YtepdnkpmkhjlgaaGreatM9B
import Derived.Test.YtepdnkpmkhjlgaaGreatRef3Is
import Derived.Test.YtepdnkpmkhjlgaaGreatBut
import Derived.Laws.AppendOwnNone
import Derived.Lib.SliceRun
import Derived.Deep.AppendLies
import Derived.OwnWalk
set_option linter.unusedSimpArgs false
set_option linter.unusedVariables false
namespace Go.Proofs.YtepdnkpmkhjlgaaGreat
open Go.RowKit

/-- A table's two cells in a block of its own. -/
structure Tb (w : World) (b : Nat) (v : Value) (x : Int) : Prop where
  c0 : w.cell? ⟨b, 0, none⟩ = some v
  c1 : w.cell? ⟨b, 1, none⟩ = some (.int .i64 x)
  f0 : w.frozen? ⟨b, 0, none⟩ = false
  f1 : w.frozen? ⟨b, 1, none⟩ = false
  lt : b < w.heap.size
theorem Tb.below {w w' : World} {b : Nat} {v : Value} {x : Int} (h : Tb w b v x) (k : Below w.heap.size w w') : Tb w' b v x :=
  ⟨(k.cell (p := ⟨b, 0, none⟩) h.lt).trans h.c0, (k.cell (p := ⟨b, 1, none⟩) h.lt).trans h.c1, (k.frozen (p := ⟨b, 0, none⟩) h.lt).trans h.f0, (k.frozen (p := ⟨b, 1, none⟩) h.lt).trans h.f1, Nat.lt_of_lt_of_le h.lt k.size⟩
theorem Tb.set0 {w : World} {b : Nat} {v : Value} {x : Int} (h : Tb w b v x) (u : Value) : Tb (w.setCell ⟨b, 0, none⟩ u) b u x :=
  ⟨World.cell?_setCell_same _ _ _ h.c0, (World.cell?_setCell_other _ _ _ _ (by simp)).trans h.c1, by simpa using h.f0, by simpa using h.f1, by simpa [World.setCell] using h.lt⟩
theorem Tb.set1 {w : World} {b : Nat} {v : Value} {x : Int} (h : Tb w b v x) (u : Int) : Tb (w.setCell ⟨b, 1, none⟩ (.int .i64 u)) b v u :=
  ⟨(World.cell?_setCell_other _ _ _ _ (by simp)).trans h.c0, World.cell?_setCell_same _ _ _ h.c1, by simpa using h.f0, by simpa using h.f1, by simpa [World.setCell] using h.lt⟩
theorem Tb.other {w : World} {b : Nat} {v : Value} {x : Int} (h : Tb w b v x) {p : Addr} (hp : p.block ≠ b) (u : Value) : Tb (w.setCell p u) b v x :=
  ⟨(World.cell?_setCell_other _ _ _ _ (fun e => hp (by rw [e]))).trans h.c0, (World.cell?_setCell_other _ _ _ _ (fun e => hp (by rw [e]))).trans h.c1, by simpa using h.f0, by simpa using h.f1, by simpa [World.setCell] using h.lt⟩
theorem Tb.new (w : World) (v : Value) (x : Int) (t : TypeId) : Tb (w.alloc (.cells #[v, .int .i64 x] t)) w.heap.size v x := by
  constructor <;> simp
theorem leap_info : (Tryz.prog.info? 90).map (fun i => (i.zero, i.size, i.bytes)) = some (some (.agg #[.int .i64 0, .int .i64 0]), 2, 16) := by kernel_rfl
theorem FlatAt.bd {w : World} {A : Option Addr} {m n : Nat} {z : Nat → Int} (h : FlatAt w A m n z) : ∀ j, j < n * m → -9223372036854775808 ≤ z j ∧ z j ≤ 9223372036854775807 := by
  intro j hj
  by_cases h0 : n = 0
  · subst h0; omega
  · obtain ⟨B, O, _, _, hc⟩ := h (by omega)
    exact (hc j hj).2
theorem FlatAt.empty (w : World) (A : Option Addr) (m : Nat) (z : Nat → Int) : FlatAt w A m 0 z := fun h => absurd h (by omega)
theorem own_flat2 {w : World} {base : Nat} {e : TypeId} {v : Value} {n : Nat} {z : Nat → Int} (h : w.ownsRow base e 2 v n (cellsOf z (n * 2))) (hz : ∀ j, j < n * 2 → -9223372036854775808 ≤ z j ∧ z j ≤ 9223372036854775807) :
    ∃ (A : Option Addr) (c : Nat), v = .slice A n c ∧ FlatAt w A 2 n z ∧ ∀ ad, A = some ad → base ≤ ad.block := by
  have hc0 := fun g hg => h.cells (g := g) hg
  have hl0 := fun g hg => h.lt g hg
  rcases h.2 with ⟨rfl, rfl⟩ | ⟨g, cap, cur, rfl, hb, hh, _⟩
  · exact ⟨none, 0, rfl, FlatAt.empty _ _ _ _, fun _ h => by cases h⟩
  · refine ⟨_, _, rfl, fun hn => ⟨g, 0, rfl, (hl0 g rfl).2, fun j hj => ⟨?_, hz j hj⟩⟩, fun ad h => by injection h with h; subst h; exact hb⟩
    have := hc0 g rfl j _ (cellsOf_at z (n * 2) j hj)
    rwa [at_add] at this
theorem FlatAt.only {g : Nat} {w w' : World} {A : Option Addr} {m n : Nat} {z : Nat → Int} (h : FlatAt w A m n z) (k : Only g w w') (hne : ∀ ad, A = some ad → ad.block ≠ g) : FlatAt w' A m n z := by
  intro h0
  obtain ⟨B, O, rfl, hB, hc⟩ := h h0
  exact ⟨B, O, rfl, Nat.lt_of_lt_of_le hB k.size, fun j hj => ⟨(k.cell _ _ hB (hne _ rfl)).trans (hc j hj).1, (hc j hj).2⟩⟩
/-- A copy: a slice of its own with the same cells. -/
def Cloned (w w' : World) (n : Nat) (z : Nat → Int) (e : Ending) : Prop := ∃ A' c', e = .returned (.slice A' n c') ∧ FlatAt w' A' 2 n z ∧ ∀ ad, A' = some ad → w.heap.size ≤ ad.block
set_option maxRecDepth 100000 in
set_option maxHeartbeats 1000000 in
theorem clone_any (A : Option Addr) (n c : Nat) (z : Nat → Int) (w : World) (hz : FlatAt w A 2 n z) (hn : n ≤ 300) (hnil : A = none → n = 0 ∧ c = 0) :
    Calls Tryz.prog 55 #[.slice A n c] w fun e w' => Cloned w w' n z e ∧ Below w.heap.size w w' := by
  cases A with
  | none =>
    obtain ⟨rfl, rfl⟩ := hnil rfl
    have q22 : ∀ (w : World) (a : Option Addr) (n c n' c' : Nat), (binOp .eql 22 (.slice a n c) (.slice none n' c')).run Tryz.prog w = .ok (.bool a.isNone) w := fun w a n c n' c' => Lib.run_eql_slice_nil w _ _ a n c n' c' Tryz.underlying22
    go_enter Tryz.func55, Tryz.ntmps55
    go_wp2
    go_ret
    exact ⟨⟨none, 0, rfl, FlatAt.empty _ _ _ _, fun _ h => by cases h⟩, Below.refl _ _⟩
  | some ad =>
    obtain ⟨i0, hi, hz0, hz1, hz2⟩ := info_parts leap_info
    have HW0 : Below w.heap.size w (w.alloc (.cells #[] 90)) := by (repeat' (first | (with_reducible exact Below.refl _ _) | (with_reducible assumption) | (with_reducible refine Below.trans ?_ (Below.mono (by with_reducible assumption) ?_)) | (with_reducible refine Below.alloc ?_ ?_ _) | (with_reducible refine Below.setCell ?_ ?_ _) | (with_reducible refine below_drewN ?_ _) | (with_reducible refine Below.drew ?_) | go_size))
    have hsrc := (hz.below HW0).cells
    have HZ := Lib.hid hz.bd
    clear hz hnil
    have q22 : ∀ (w : World) (a : Option Addr) (n c n' c' : Nat), (binOp .eql 22 (.slice a n c) (.slice none n' c')).run Tryz.prog w = .ok (.bool a.isNone) w := fun w a n c n' c' => Lib.run_eql_slice_nil w _ _ a n c n' c' Tryz.underlying22
    go_enter Tryz.func55, Tryz.ntmps55
    go_wp2_with (at_builtin; refine wpList_append_own _ rfl (.tmp 5) (.tmp 6) _ rfl w.heap.size 90 i0 _ 2 16 Tryz.underlying22 hi hz0 hz1 hz2 rfl (by decide) (.slice (some ⟨w.heap.size, 0, none⟩) 0 0) 0 [] rfl (World.ownsRow_made w #[] 0 (Nat.le_refl _) (Nat.zero_le _) rfl) ad n c (cellsOf z (n * 2)) rfl (cellsOf_len _ _) hsrc (cellsOf_one _ _) (by unfold maxLen; omega) (by omega) (by simp) ?_; intro v1 w1 hown1 hg1 hat1)
    have hown : w1.ownsRow w.heap.size 90 2 v1 n (cellsOf z (n * 2)) := by simpa using hown1
    have HB1 : Below w.heap.size w w1 := HW0.grown hg1 (by simp) (fun k hk => by simp [Value.ownBlock] at hk; omega)
    obtain ⟨A1, c1, rfl, hp, hf⟩ := own_flat2 hown HZ.out
    clear hown hown1 hg1 hat1 hsrc HW0 HZ
    go_ret
    exact ⟨⟨A1, c1, rfl, hp, hf⟩, HB1⟩
theorem Tb.below0 {w w' : World} {b B : Nat} {v : Value} {x : Int} (h : Tb w b v x) (k : Below B w w') (hb : b < B) : Tb w' b v x :=
  ⟨(k.cell (p := ⟨b, 0, none⟩) hb).trans h.c0, (k.cell (p := ⟨b, 1, none⟩) hb).trans h.c1, (k.frozen (p := ⟨b, 0, none⟩) hb).trans h.f0, (k.frozen (p := ⟨b, 1, none⟩) hb).trans h.f1, Nat.lt_of_lt_of_le h.lt k.size⟩
set_option maxRecDepth 100000 in
set_option maxHeartbeats 2000000 in
theorem ref3_of_yes_some (ad : Addr) (n c : Nat) (x : Int) (z : Nat → Int) (w : World) (hz : FlatAt w (some ad) 2 n z) (hn : n ≤ 300) (ht : IsTab z n x) :
    Calls Tryz.prog 58 #[.int .i64 x, .slice (some ad) n c] w fun e w' => (∃ A' c', e = .returned (.tuple #[.agg #[.slice A' n c', .int .i64 x], .int .i64 0]) ∧ FlatAt w' A' 2 n z ∧ ∀ ad, A' = some ad → w.heap.size ≤ ad.block) ∧ Below w.heap.size w w' := by
  obtain ⟨i0, hi, hz0, hz1, hz2⟩ := info_parts leap_info
  have HB0 : Below w.heap.size w ((w.alloc (.cells #[.slice none 0 0, .int .i64 0] 24)).alloc (.cells #[] 90)) := by (repeat' (first | (with_reducible exact Below.refl _ _) | (with_reducible assumption) | (with_reducible refine Below.trans ?_ (Below.mono (by with_reducible assumption) ?_)) | (with_reducible refine Below.alloc ?_ ?_ _) | (with_reducible refine Below.setCell ?_ ?_ _) | (with_reducible refine below_drewN ?_ _) | (with_reducible refine Below.drew ?_) | go_size))
  have T0 : Tb ((w.alloc (.cells #[.slice none 0 0, .int .i64 0] 24)).alloc (.cells #[] 90)) w.heap.size (.slice none 0 0) 0 := ⟨by simp [go_sem], by simp [go_sem], by simp [go_sem], by simp [go_sem], by simp [World.size_alloc]; try omega⟩
  have hm : ((w.alloc (.cells #[.slice none 0 0, .int .i64 0] 24)).alloc (.cells #[] 90)).ownsRow (w.heap.size + 1) 90 2 (.slice (some ⟨w.heap.size + 1, 0, none⟩) 0 0) 0 [] := by
    have := World.ownsRow_made (base := w.heap.size + 1) (e := 90) (size := 2) (w.alloc (.cells #[.slice none 0 0, .int .i64 0] 24)) #[] 0 (by simp) (Nat.zero_le _) rfl
    simpa using this
  have HT := Lib.hid ht
  have hsrc := (hz.below HB0).cells
  have HZ := Lib.hid hz.bd
  clear hz ht
  go_enter Tryz.func58, Tryz.ntmps58
  go_wp2_with (at_builtin; refine wpList_append_own _ rfl (.tmp 7) (.tmp 8) _ rfl (w.heap.size + 1) 90 i0 _ 2 16 Tryz.underlying22 hi hz0 hz1 hz2 rfl (by decide) (.slice (some ⟨w.heap.size + 1, 0, none⟩) 0 0) 0 [] rfl hm ad n c (cellsOf z (n * 2)) rfl (cellsOf_len _ _) hsrc (cellsOf_one _ _) (by unfold maxLen; omega) (by omega) (by simp) ?_; intro v1 w1 hown1 hg1 hat1; have hown : w1.ownsRow (w.heap.size + 1) 90 2 v1 n (cellsOf z (n * 2)) := (by simpa using hown1); have HB01 : Below (w.heap.size + 1) ((w.alloc (.cells #[.slice none 0 0, .int .i64 0] 24)).alloc (.cells #[] 90)) w1 := (Below.refl _ _).grown hg1 (by simp) (fun k hk => (by simp [Value.ownBlock] at hk; omega)); obtain ⟨A1, c1, rfl, hp1, hf1⟩ := own_flat2 hown HZ.out; clear hown hown1 hg1 hat1)
  have HB1 : Below w.heap.size w w1 := HB0.trans (HB01.mono (by omega))
  clear hsrc HB0 HZ hm
  have T1 : Tb w1 w.heap.size (.slice none 0 0) 0 := T0.below0 HB01 (by omega)
  have HW : Below w1.heap.size w1 (w1.alloc (.cells #[.slice A1 n c1, .int .i64 x] 24)) := by (repeat' (first | (with_reducible exact Below.refl _ _) | (with_reducible assumption) | (with_reducible refine Below.trans ?_ (Below.mono (by with_reducible assumption) ?_)) | (with_reducible refine Below.alloc ?_ ?_ _) | (with_reducible refine Below.setCell ?_ ?_ _) | (with_reducible refine below_drewN ?_ _) | (with_reducible refine Below.drew ?_) | go_size))
  have X1 : Tb (w1.alloc (.cells #[.slice A1 n c1, .int .i64 x] 24)) w1.heap.size (.slice A1 n c1) x := ⟨by simp [go_sem], by simp [go_sem], by simp [go_sem], by simp [go_sem], by simp⟩
  have T2 := T1.below HW
  have hp2 := hp1.below HW
  have HB2 := HB1.trans (HW.mono HB1.size)
  have HI := Lib.hid (ref3_is A1 n c1 x z _ true hp2 (by unfold maxLen; omega) (by simp [HT.out]))
  have h1lt := T1.lt
  clear T0 T1 hp1 HW HB1 HB01
  go_wp2_with fail
  refine HI.out.mono ?_; rintro e w3 ⟨rfl, hb3⟩
  have HB3 := HB2.trans (hb3.mono HB2.size)
  have T3 := T2.below hb3
  have X3 := X1.below hb3
  have FL := Lib.hid (hp2.below hb3)
  have R := (T3.set0 (.slice A1 n c1)).set1 x
  have R0 := R.c0
  have R1 := R.c1
  obtain ⟨t0, t1, tf0, tf1, tl⟩ := T3
  obtain ⟨x0, x1, xf0, xf1, xl⟩ := X3
  have ZO : Hid (Only w.heap.size w3 ((w3.setCell ⟨w.heap.size, 0, none⟩ (.slice A1 n c1)).setCell ⟨w.heap.size, 1, none⟩ (.int .i64 x))) := ((Only.refl _ w3).setB _).setB _
  have ZB := Lib.hid ((HB3.setCell (p := ⟨w.heap.size, 0, none⟩) (Nat.le_refl _) (.slice A1 n c1)).setCell (p := ⟨w.heap.size, 1, none⟩) (Nat.le_refl _) (.int .i64 x))
  have hf1' : Hid (∀ ad, A1 = some ad → w.heap.size + 1 ≤ ad.block) := hf1
  clear hb3 T2 X1 hp2 HB2 HB3 R HI hf1
  go_wp2_with fail
  refine bodyPost_ret (v := .tuple #[.agg #[.slice A1 n c1, .int .i64 x], .int .i64 0]) (by simp [results, Tryz.results58, go_sem, R0, R1]) rfl ⟨⟨A1, c1, rfl, FL.out.only ZO.out (fun ad h => by have := hf1'.out ad h; omega), fun ad h => by have := hf1'.out ad h; omega⟩, ZB.out⟩
end Go.Proofs.YtepdnkpmkhjlgaaGreat
