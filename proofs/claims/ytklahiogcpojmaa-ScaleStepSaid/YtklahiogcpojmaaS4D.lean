/- Stage 4: ScaleOrder. -/
import Derived.Test.YtklahiogcpojmaaS4B
import Derived.Test.YtklahiogcpojmaaTaiBad
import Derived.Test.YtklahiogcpojmaaLeapMath
import Derived.Test.YtklahiogcpojmaaArgTable
import Derived.Test.YtklahiogcpojmaaLaw
set_option linter.unusedSimpArgs false
set_option linter.unusedVariables false
namespace Go.Proofs.Ytklahiogcpojmaa
open Go.ChangeShapes Go.WideShapes Go.ChangeAt Go.RowKit Go.Joins

def lenS (z : Nat → Int) (n : Nat) (d : Int) : Int := 86400 + offK z (d + 1) n - offK z d n
def taiV (z : Nat → Int) (n : Nat) (d nano : Int) : Int := begS z n d * 1000000000 + nano
theorem tai_val {z : Nat → Int} {n : Nat} {x d nano : Int} (h : IsTab z n x) (d0 : -100000 ≤ d) (d1 : d ≤ 100000) (n0 : 0 ≤ nano) (n1 : nano < lenS z n d * 1000000000) :
    addS (addS (mulS d 86400000000000) nano) (mulS (offK z d n) 1000000000) = taiV z n d nano := by
  have b0 := offK_bd h d n (Nat.le_refl _)
  have b1 := offK_bd h (d + 1) n (Nat.le_refl _)
  unfold lenS at n1
  have e1 : mulS d 86400000000000 = d * 86400000000000 := by unfold mulS; rw [if_neg (by omega), if_neg (by omega)]
  have e2 : mulS (offK z d n) 1000000000 = offK z d n * 1000000000 := by unfold mulS; rw [if_neg (by omega), if_neg (by omega)]
  rw [e1, e2, addS_in (a := d * 86400000000000) (b := nano) (by omega) (by omega), addS_in (by omega) (by omega)]
  unfold taiV begS
  omega
/-- What TAI tells of a moment not far from now. -/
theorem tai_some (A : Option Addr) (n c : Nat) (x day nano : Int) (z : Nat → Int) (hn : n ≤ maxLen) (d0 : -100000 ≤ day) (d1 : day ≤ 100000) :
    (IsTab z n x ∧ 0 ≤ nano ∧ nano < lenS z n day * 1000000000 ∧ ∀ w : World, FlatAt w A 2 n z → Calls Try.prog 17 #[.agg #[.slice A n c, .int .i64 x], .agg #[.int .i64 day, .int .i64 nano]] w fun e w' => e = .returned (.tuple #[.int .i64 (taiV z n day nano), .int .i64 0]) ∧ Below w.heap.size w w') ∨
    (∀ w : World, FlatAt w A 2 n z → Calls Try.prog 17 #[.agg #[.slice A n c, .int .i64 x], .agg #[.int .i64 day, .int .i64 nano]] w fun e w' => e = .returned (.tuple #[.int .i64 0, .int .i64 1]) ∧ Below w.heap.size w w') := by
  by_cases ht : IsTab z n x
  · by_cases h0 : nano < 0
    · exact .inr fun w hz => scale_tai_neg A n c x day nano z w hz ht (by omega) (by omega) h0
    · by_cases h1 : nano < lenS z n day * 1000000000
      · refine .inl ⟨ht, by omega, h1, fun w hz => ?_⟩
        have r := scale_tai_ok A n c x day nano z w hz ht (by omega) (by omega) (by omega) h1
        rwa [tai_val ht d0 d1 (by omega) h1] at r
      · exact .inr fun w hz => scale_tai_late A n c x day nano z w hz ht (by omega) (by omega) (by omega) (by unfold lenS at h1; omega)
  · exact .inr fun w hz => scale_tai_notab A n c x day nano z w hz hn ht
theorem tai_lt {z : Nat → Int} {n : Nat} {x d d' m m' : Int} (h : IsTab z n x) (hd : d < d') (m1 : m < lenS z n d * 1000000000) (m0 : 0 ≤ m') : taiV z n d m < taiV z n d' m' := by
  have s := (begS_step h d).1
  have g := begS_mono h (show d + 1 ≤ d' from by omega)
  unfold lenS at m1
  unfold taiV
  omega
set_option maxHeartbeats 2000000 in
theorem order_out (A : Option Addr) (n c : Nat) (x d m d' m' : Int) (w : World) (hn : n ≤ maxLen) (h : 200 < n ∨ (n ≤ 200 ∧ d < -100000) ∨ (n ≤ 200 ∧ -100000 ≤ d ∧ 100000 < d) ∨ (n ≤ 200 ∧ -100000 ≤ d ∧ d ≤ 100000 ∧ d' < -100000) ∨ (n ≤ 200 ∧ -100000 ≤ d ∧ d ≤ 100000 ∧ -100000 ≤ d' ∧ 100000 < d')) :
    Calls Try.prog 10 #[.agg #[.slice A n c, .int .i64 x], .agg #[.int .i64 d, .int .i64 m], .agg #[.int .i64 d', .int .i64 m']] w fun e w' => e = .returned (.bool true) ∧ Below w.heap.size w w' := by
  unfold maxLen at hn
  rcases h with h | ⟨h0, h⟩ | ⟨h0, h1, h⟩ | ⟨h0, h1, h2, h⟩ | ⟨h0, h1, h2, h3, h⟩
  · have h' : (200 : Int) < (n : Int) := by omega
    go_enter Try.func10, Try.ntmps10
    go_wp2
    go_ret
    go_light
    exact ⟨rfl, by (repeat' (first | (with_reducible exact Below.refl _ _) | (with_reducible assumption) | (with_reducible refine Below.trans ?_ (Below.mono (by with_reducible assumption) ?_)) | (with_reducible refine Below.alloc ?_ ?_ _) | (with_reducible refine Below.setCell ?_ ?_ _) | (with_reducible refine below_drewN ?_ _) | (with_reducible refine Below.drew ?_) | go_size))⟩
  all_goals
    have h' : (n : Int) ≤ 200 := by omega
    go_enter Try.func10, Try.ntmps10
    go_wp2
    go_ret
    go_light
    exact ⟨rfl, by (repeat' (first | (with_reducible exact Below.refl _ _) | (with_reducible assumption) | (with_reducible refine Below.trans ?_ (Below.mono (by with_reducible assumption) ?_)) | (with_reducible refine Below.alloc ?_ ?_ _) | (with_reducible refine Below.setCell ?_ ?_ _) | (with_reducible refine below_drewN ?_ _) | (with_reducible refine Below.drew ?_) | go_size))⟩
set_option maxRecDepth 100000 in
set_option maxHeartbeats 8000000 in
theorem order_in (A : Option Addr) (n c : Nat) (x d m d' m' : Int) (z : Nat → Int) (w : World) (hz : FlatAt w A 2 n z) (hn : n ≤ 200) (h1 : -100000 ≤ d) (h2 : d ≤ 100000) (h3 : -100000 ≤ d') (h4 : d' ≤ 100000) :
    Calls Try.prog 10 #[.agg #[.slice A n c, .int .i64 x], .agg #[.int .i64 d, .int .i64 m], .agg #[.int .i64 d', .int .i64 m']] w fun e w' => e = .returned (.bool true) ∧ Below w.heap.size w w' := by
  have h' : (n : Int) ≤ 200 := by omega
  have HB0 : Below w.heap.size w (((w.alloc (.cells #[.slice A n c, .int .i64 x] 30)).alloc (.cells #[.int .i64 d, .int .i64 m] 32)).alloc (.cells #[.int .i64 d', .int .i64 m'] 32)) := by (repeat' (first | (with_reducible exact Below.refl _ _) | (with_reducible assumption) | (with_reducible refine Below.trans ?_ (Below.mono (by with_reducible assumption) ?_)) | (with_reducible refine Below.alloc ?_ ?_ _) | (with_reducible refine Below.setCell ?_ ?_ _) | (with_reducible refine below_drewN ?_ _) | (with_reducible refine Below.drew ?_) | go_size))
  have HZ := Lib.hid hz
  clear hz
  rcases tai_some A n c x d m z (by unfold maxLen; omega) h1 h2 with ⟨ht, m0, m1, T1⟩ | T1
  · have HT1 := Lib.hid T1
    clear T1
    rcases tai_some A n c x d' m' z (by unfold maxLen; omega) h3 h4 with ⟨_, m0', m1', T2⟩ | T2
    · have HT2 := Lib.hid T2
      clear T2
      have l1 : d < d' → taiV z n d m < taiV z n d' m' := fun h => tai_lt ht h m1 m0'
      have l2 : d' < d → taiV z n d' m' < taiV z n d m := fun h => tai_lt ht h m1' m0
      have l3 : d = d' → taiV z n d' m' - taiV z n d m = m' - m := by rintro rfl; unfold taiV; omega
      generalize taiV z n d m = va at *
      generalize taiV z n d' m' = vb at *
      clear ht m1 m1'
      rcases (show d < d' ∨ d' < d ∨ (d = d' ∧ m < m') ∨ (d = d' ∧ m = m') ∨ (d = d' ∧ m' < m) from by omega) with k | k | ⟨k, k'⟩ | ⟨k, k'⟩ | ⟨k, k'⟩
      · have l := l1 k
        have f1 : decide (va < vb) = true := by simp; omega
        have f2 : (va == vb) = false := by simp; omega
        have f3 : decide (d < d') = true := by simp; omega
        have f4 : (d == d') = false := by simp; omega
        clear l1 l2 l3 l k
        go_enter Try.func10, Try.ntmps10
        go_wp2_with fail
        refine (HT1.out _ (HZ.out.below HB0)).mono ?_; rintro e w1 ⟨rfl, hb1⟩
        have HB1 : Below w.heap.size w w1 := HB0.trans (hb1.mono HB0.size)
        have q0 : w1.cell? ⟨w.heap.size, 0, none⟩ = some (.slice A n c) := (hb1.cell (p := ⟨w.heap.size, 0, none⟩) (by simp; omega)).trans (by simp [go_sem])
        have q1 : w1.cell? ⟨w.heap.size, 1, none⟩ = some (.int .i64 x) := (hb1.cell (p := ⟨w.heap.size, 1, none⟩) (by simp; omega)).trans (by simp [go_sem])
        have q2 : w1.cell? ⟨w.heap.size + 1, 0, none⟩ = some (.int .i64 d) := (hb1.cell (p := ⟨w.heap.size + 1, 0, none⟩) (by simp)).trans (by simp [go_sem])
        have q3 : w1.cell? ⟨w.heap.size + 1, 1, none⟩ = some (.int .i64 m) := (hb1.cell (p := ⟨w.heap.size + 1, 1, none⟩) (by simp)).trans (by simp [go_sem])
        have q4 : w1.cell? ⟨w.heap.size + 1 + 1, 0, none⟩ = some (.int .i64 d') := (hb1.cell (p := ⟨w.heap.size + 1 + 1, 0, none⟩) (by simp)).trans (by simp [go_sem])
        have q5 : w1.cell? ⟨w.heap.size + 1 + 1, 1, none⟩ = some (.int .i64 m') := (hb1.cell (p := ⟨w.heap.size + 1 + 1, 1, none⟩) (by simp)).trans (by simp [go_sem])
        have z1 : w.heap.size + 1 + 1 < w1.heap.size := by have := hb1.size; simp at this; omega
        have z1' : w.heap.size + 1 < w1.heap.size := by omega
        clear hb1
        go_wp2_with fail
        refine (HT2.out _ (HZ.out.below HB1)).mono ?_; rintro e w2 ⟨rfl, hb2⟩
        have HB2 : Below w.heap.size w w2 := HB1.trans (hb2.mono HB1.size)
        have p2 := (hb2.cell (p := ⟨w.heap.size + 1, 0, none⟩) z1').trans q2
        have p3 := (hb2.cell (p := ⟨w.heap.size + 1, 1, none⟩) z1').trans q3
        have p4 := (hb2.cell (p := ⟨w.heap.size + 1 + 1, 0, none⟩) z1).trans q4
        have p5 := (hb2.cell (p := ⟨w.heap.size + 1 + 1, 1, none⟩) z1).trans q5
        have z2 := HB2.size
        clear hb2 q0 q1 q2 q3 q4 q5 HB0 HB1 HT1 HT2 HZ
        go_wp2_with (go_at_call 14; refine (known4 _).mono ?_; rintro e w5 ⟨rfl, hb5⟩; obtain ⟨hc5, hf5⟩ := bcell hb5; have hz5 := hb5.size; (try simp only [World.size_alloc, World.size_setCell, World.heap_drewN] at hb5 hc5 hf5 hz5); (try have ha05 : w.heap.size < w5.heap.size := by omega); (try have ha15 : w.heap.size + 1 < w5.heap.size := by omega); (try have ha25 : w.heap.size + 2 < w5.heap.size := by omega); (try have hal5 : w.heap.size ≤ w5.heap.size := by omega); (try have ham5 : w.heap.size < w5.heap.size + 2 := by omega))
        go_ret
        go_light
        exact ⟨rfl, by (repeat' (first | (with_reducible exact Below.refl _ _) | (with_reducible assumption) | (with_reducible refine Below.trans ?_ (Below.mono (by with_reducible assumption) ?_)) | (with_reducible refine Below.alloc ?_ ?_ _) | (with_reducible refine Below.setCell ?_ ?_ _) | (with_reducible refine below_drewN ?_ _) | (with_reducible refine Below.drew ?_) | go_size))⟩
      · have l := l2 k
        have f1 : decide (va < vb) = false := by simp; omega
        have f2 : (va == vb) = false := by simp; omega
        have f3 : decide (d < d') = false := by simp; omega
        have f4 : (d == d') = false := by simp; omega
        clear l1 l2 l3 l k
        go_enter Try.func10, Try.ntmps10
        go_wp2_with fail
        refine (HT1.out _ (HZ.out.below HB0)).mono ?_; rintro e w1 ⟨rfl, hb1⟩
        have HB1 : Below w.heap.size w w1 := HB0.trans (hb1.mono HB0.size)
        have q0 : w1.cell? ⟨w.heap.size, 0, none⟩ = some (.slice A n c) := (hb1.cell (p := ⟨w.heap.size, 0, none⟩) (by simp; omega)).trans (by simp [go_sem])
        have q1 : w1.cell? ⟨w.heap.size, 1, none⟩ = some (.int .i64 x) := (hb1.cell (p := ⟨w.heap.size, 1, none⟩) (by simp; omega)).trans (by simp [go_sem])
        have q2 : w1.cell? ⟨w.heap.size + 1, 0, none⟩ = some (.int .i64 d) := (hb1.cell (p := ⟨w.heap.size + 1, 0, none⟩) (by simp)).trans (by simp [go_sem])
        have q3 : w1.cell? ⟨w.heap.size + 1, 1, none⟩ = some (.int .i64 m) := (hb1.cell (p := ⟨w.heap.size + 1, 1, none⟩) (by simp)).trans (by simp [go_sem])
        have q4 : w1.cell? ⟨w.heap.size + 1 + 1, 0, none⟩ = some (.int .i64 d') := (hb1.cell (p := ⟨w.heap.size + 1 + 1, 0, none⟩) (by simp)).trans (by simp [go_sem])
        have q5 : w1.cell? ⟨w.heap.size + 1 + 1, 1, none⟩ = some (.int .i64 m') := (hb1.cell (p := ⟨w.heap.size + 1 + 1, 1, none⟩) (by simp)).trans (by simp [go_sem])
        have z1 : w.heap.size + 1 + 1 < w1.heap.size := by have := hb1.size; simp at this; omega
        have z1' : w.heap.size + 1 < w1.heap.size := by omega
        clear hb1
        go_wp2_with fail
        refine (HT2.out _ (HZ.out.below HB1)).mono ?_; rintro e w2 ⟨rfl, hb2⟩
        have HB2 : Below w.heap.size w w2 := HB1.trans (hb2.mono HB1.size)
        have p2 := (hb2.cell (p := ⟨w.heap.size + 1, 0, none⟩) z1').trans q2
        have p3 := (hb2.cell (p := ⟨w.heap.size + 1, 1, none⟩) z1').trans q3
        have p4 := (hb2.cell (p := ⟨w.heap.size + 1 + 1, 0, none⟩) z1).trans q4
        have p5 := (hb2.cell (p := ⟨w.heap.size + 1 + 1, 1, none⟩) z1).trans q5
        have z2 := HB2.size
        clear hb2 q0 q1 q2 q3 q4 q5 HB0 HB1 HT1 HT2 HZ
        go_wp2_with (go_at_call 14; refine (known4 _).mono ?_; rintro e w5 ⟨rfl, hb5⟩; obtain ⟨hc5, hf5⟩ := bcell hb5; have hz5 := hb5.size; (try simp only [World.size_alloc, World.size_setCell, World.heap_drewN] at hb5 hc5 hf5 hz5); (try have ha05 : w.heap.size < w5.heap.size := by omega); (try have ha15 : w.heap.size + 1 < w5.heap.size := by omega); (try have ha25 : w.heap.size + 2 < w5.heap.size := by omega); (try have hal5 : w.heap.size ≤ w5.heap.size := by omega); (try have ham5 : w.heap.size < w5.heap.size + 2 := by omega))
        go_ret
        go_light
        exact ⟨rfl, by (repeat' (first | (with_reducible exact Below.refl _ _) | (with_reducible assumption) | (with_reducible refine Below.trans ?_ (Below.mono (by with_reducible assumption) ?_)) | (with_reducible refine Below.alloc ?_ ?_ _) | (with_reducible refine Below.setCell ?_ ?_ _) | (with_reducible refine below_drewN ?_ _) | (with_reducible refine Below.drew ?_) | go_size))⟩
      · have l := l3 k
        have f1 : decide (va < vb) = true := by simp; omega
        have f2 : (va == vb) = false := by simp; omega
        have f3 : decide (d < d') = false := by simp; omega
        have f4 : (d == d') = true := by simp; omega
        have f5 : decide (m < m') = true := by simp; omega
        have f6 : (m == m') = false := by simp; omega
        clear l1 l2 l3 l k k'
        go_enter Try.func10, Try.ntmps10
        go_wp2_with fail
        refine (HT1.out _ (HZ.out.below HB0)).mono ?_; rintro e w1 ⟨rfl, hb1⟩
        have HB1 : Below w.heap.size w w1 := HB0.trans (hb1.mono HB0.size)
        have q0 : w1.cell? ⟨w.heap.size, 0, none⟩ = some (.slice A n c) := (hb1.cell (p := ⟨w.heap.size, 0, none⟩) (by simp; omega)).trans (by simp [go_sem])
        have q1 : w1.cell? ⟨w.heap.size, 1, none⟩ = some (.int .i64 x) := (hb1.cell (p := ⟨w.heap.size, 1, none⟩) (by simp; omega)).trans (by simp [go_sem])
        have q2 : w1.cell? ⟨w.heap.size + 1, 0, none⟩ = some (.int .i64 d) := (hb1.cell (p := ⟨w.heap.size + 1, 0, none⟩) (by simp)).trans (by simp [go_sem])
        have q3 : w1.cell? ⟨w.heap.size + 1, 1, none⟩ = some (.int .i64 m) := (hb1.cell (p := ⟨w.heap.size + 1, 1, none⟩) (by simp)).trans (by simp [go_sem])
        have q4 : w1.cell? ⟨w.heap.size + 1 + 1, 0, none⟩ = some (.int .i64 d') := (hb1.cell (p := ⟨w.heap.size + 1 + 1, 0, none⟩) (by simp)).trans (by simp [go_sem])
        have q5 : w1.cell? ⟨w.heap.size + 1 + 1, 1, none⟩ = some (.int .i64 m') := (hb1.cell (p := ⟨w.heap.size + 1 + 1, 1, none⟩) (by simp)).trans (by simp [go_sem])
        have z1 : w.heap.size + 1 + 1 < w1.heap.size := by have := hb1.size; simp at this; omega
        have z1' : w.heap.size + 1 < w1.heap.size := by omega
        clear hb1
        go_wp2_with fail
        refine (HT2.out _ (HZ.out.below HB1)).mono ?_; rintro e w2 ⟨rfl, hb2⟩
        have HB2 : Below w.heap.size w w2 := HB1.trans (hb2.mono HB1.size)
        have p2 := (hb2.cell (p := ⟨w.heap.size + 1, 0, none⟩) z1').trans q2
        have p3 := (hb2.cell (p := ⟨w.heap.size + 1, 1, none⟩) z1').trans q3
        have p4 := (hb2.cell (p := ⟨w.heap.size + 1 + 1, 0, none⟩) z1).trans q4
        have p5 := (hb2.cell (p := ⟨w.heap.size + 1 + 1, 1, none⟩) z1).trans q5
        have z2 := HB2.size
        clear hb2 q0 q1 q2 q3 q4 q5 HB0 HB1 HT1 HT2 HZ
        go_wp2_with (go_at_call 14; refine (known4 _).mono ?_; rintro e w5 ⟨rfl, hb5⟩; obtain ⟨hc5, hf5⟩ := bcell hb5; have hz5 := hb5.size; (try simp only [World.size_alloc, World.size_setCell, World.heap_drewN] at hb5 hc5 hf5 hz5); (try have ha05 : w.heap.size < w5.heap.size := by omega); (try have ha15 : w.heap.size + 1 < w5.heap.size := by omega); (try have ha25 : w.heap.size + 2 < w5.heap.size := by omega); (try have hal5 : w.heap.size ≤ w5.heap.size := by omega); (try have ham5 : w.heap.size < w5.heap.size + 2 := by omega))
        go_ret
        go_light
        exact ⟨rfl, by (repeat' (first | (with_reducible exact Below.refl _ _) | (with_reducible assumption) | (with_reducible refine Below.trans ?_ (Below.mono (by with_reducible assumption) ?_)) | (with_reducible refine Below.alloc ?_ ?_ _) | (with_reducible refine Below.setCell ?_ ?_ _) | (with_reducible refine below_drewN ?_ _) | (with_reducible refine Below.drew ?_) | go_size))⟩
      · have l := l3 k
        have f1 : decide (va < vb) = false := by simp; omega
        have f2 : (va == vb) = true := by simp; omega
        have f3 : decide (d < d') = false := by simp; omega
        have f4 : (d == d') = true := by simp; omega
        have f5 : decide (m < m') = false := by simp; omega
        have f6 : (m == m') = true := by simp; omega
        clear l1 l2 l3 l k k'
        go_enter Try.func10, Try.ntmps10
        go_wp2_with fail
        refine (HT1.out _ (HZ.out.below HB0)).mono ?_; rintro e w1 ⟨rfl, hb1⟩
        have HB1 : Below w.heap.size w w1 := HB0.trans (hb1.mono HB0.size)
        have q0 : w1.cell? ⟨w.heap.size, 0, none⟩ = some (.slice A n c) := (hb1.cell (p := ⟨w.heap.size, 0, none⟩) (by simp; omega)).trans (by simp [go_sem])
        have q1 : w1.cell? ⟨w.heap.size, 1, none⟩ = some (.int .i64 x) := (hb1.cell (p := ⟨w.heap.size, 1, none⟩) (by simp; omega)).trans (by simp [go_sem])
        have q2 : w1.cell? ⟨w.heap.size + 1, 0, none⟩ = some (.int .i64 d) := (hb1.cell (p := ⟨w.heap.size + 1, 0, none⟩) (by simp)).trans (by simp [go_sem])
        have q3 : w1.cell? ⟨w.heap.size + 1, 1, none⟩ = some (.int .i64 m) := (hb1.cell (p := ⟨w.heap.size + 1, 1, none⟩) (by simp)).trans (by simp [go_sem])
        have q4 : w1.cell? ⟨w.heap.size + 1 + 1, 0, none⟩ = some (.int .i64 d') := (hb1.cell (p := ⟨w.heap.size + 1 + 1, 0, none⟩) (by simp)).trans (by simp [go_sem])
        have q5 : w1.cell? ⟨w.heap.size + 1 + 1, 1, none⟩ = some (.int .i64 m') := (hb1.cell (p := ⟨w.heap.size + 1 + 1, 1, none⟩) (by simp)).trans (by simp [go_sem])
        have z1 : w.heap.size + 1 + 1 < w1.heap.size := by have := hb1.size; simp at this; omega
        have z1' : w.heap.size + 1 < w1.heap.size := by omega
        clear hb1
        go_wp2_with fail
        refine (HT2.out _ (HZ.out.below HB1)).mono ?_; rintro e w2 ⟨rfl, hb2⟩
        have HB2 : Below w.heap.size w w2 := HB1.trans (hb2.mono HB1.size)
        have p2 := (hb2.cell (p := ⟨w.heap.size + 1, 0, none⟩) z1').trans q2
        have p3 := (hb2.cell (p := ⟨w.heap.size + 1, 1, none⟩) z1').trans q3
        have p4 := (hb2.cell (p := ⟨w.heap.size + 1 + 1, 0, none⟩) z1).trans q4
        have p5 := (hb2.cell (p := ⟨w.heap.size + 1 + 1, 1, none⟩) z1).trans q5
        have z2 := HB2.size
        clear hb2 q0 q1 q2 q3 q4 q5 HB0 HB1 HT1 HT2 HZ
        go_wp2_with (go_at_call 14; refine (known4 _).mono ?_; rintro e w5 ⟨rfl, hb5⟩; obtain ⟨hc5, hf5⟩ := bcell hb5; have hz5 := hb5.size; (try simp only [World.size_alloc, World.size_setCell, World.heap_drewN] at hb5 hc5 hf5 hz5); (try have ha05 : w.heap.size < w5.heap.size := by omega); (try have ha15 : w.heap.size + 1 < w5.heap.size := by omega); (try have ha25 : w.heap.size + 2 < w5.heap.size := by omega); (try have hal5 : w.heap.size ≤ w5.heap.size := by omega); (try have ham5 : w.heap.size < w5.heap.size + 2 := by omega))
        go_ret
        go_light
        exact ⟨rfl, by (repeat' (first | (with_reducible exact Below.refl _ _) | (with_reducible assumption) | (with_reducible refine Below.trans ?_ (Below.mono (by with_reducible assumption) ?_)) | (with_reducible refine Below.alloc ?_ ?_ _) | (with_reducible refine Below.setCell ?_ ?_ _) | (with_reducible refine below_drewN ?_ _) | (with_reducible refine Below.drew ?_) | go_size))⟩
      · have l := l3 k
        have f1 : decide (va < vb) = false := by simp; omega
        have f2 : (va == vb) = false := by simp; omega
        have f3 : decide (d < d') = false := by simp; omega
        have f4 : (d == d') = true := by simp; omega
        have f5 : decide (m < m') = false := by simp; omega
        have f6 : (m == m') = false := by simp; omega
        clear l1 l2 l3 l k k'
        go_enter Try.func10, Try.ntmps10
        go_wp2_with fail
        refine (HT1.out _ (HZ.out.below HB0)).mono ?_; rintro e w1 ⟨rfl, hb1⟩
        have HB1 : Below w.heap.size w w1 := HB0.trans (hb1.mono HB0.size)
        have q0 : w1.cell? ⟨w.heap.size, 0, none⟩ = some (.slice A n c) := (hb1.cell (p := ⟨w.heap.size, 0, none⟩) (by simp; omega)).trans (by simp [go_sem])
        have q1 : w1.cell? ⟨w.heap.size, 1, none⟩ = some (.int .i64 x) := (hb1.cell (p := ⟨w.heap.size, 1, none⟩) (by simp; omega)).trans (by simp [go_sem])
        have q2 : w1.cell? ⟨w.heap.size + 1, 0, none⟩ = some (.int .i64 d) := (hb1.cell (p := ⟨w.heap.size + 1, 0, none⟩) (by simp)).trans (by simp [go_sem])
        have q3 : w1.cell? ⟨w.heap.size + 1, 1, none⟩ = some (.int .i64 m) := (hb1.cell (p := ⟨w.heap.size + 1, 1, none⟩) (by simp)).trans (by simp [go_sem])
        have q4 : w1.cell? ⟨w.heap.size + 1 + 1, 0, none⟩ = some (.int .i64 d') := (hb1.cell (p := ⟨w.heap.size + 1 + 1, 0, none⟩) (by simp)).trans (by simp [go_sem])
        have q5 : w1.cell? ⟨w.heap.size + 1 + 1, 1, none⟩ = some (.int .i64 m') := (hb1.cell (p := ⟨w.heap.size + 1 + 1, 1, none⟩) (by simp)).trans (by simp [go_sem])
        have z1 : w.heap.size + 1 + 1 < w1.heap.size := by have := hb1.size; simp at this; omega
        have z1' : w.heap.size + 1 < w1.heap.size := by omega
        clear hb1
        go_wp2_with fail
        refine (HT2.out _ (HZ.out.below HB1)).mono ?_; rintro e w2 ⟨rfl, hb2⟩
        have HB2 : Below w.heap.size w w2 := HB1.trans (hb2.mono HB1.size)
        have p2 := (hb2.cell (p := ⟨w.heap.size + 1, 0, none⟩) z1').trans q2
        have p3 := (hb2.cell (p := ⟨w.heap.size + 1, 1, none⟩) z1').trans q3
        have p4 := (hb2.cell (p := ⟨w.heap.size + 1 + 1, 0, none⟩) z1).trans q4
        have p5 := (hb2.cell (p := ⟨w.heap.size + 1 + 1, 1, none⟩) z1).trans q5
        have z2 := HB2.size
        clear hb2 q0 q1 q2 q3 q4 q5 HB0 HB1 HT1 HT2 HZ
        go_wp2_with (go_at_call 14; refine (known4 _).mono ?_; rintro e w5 ⟨rfl, hb5⟩; obtain ⟨hc5, hf5⟩ := bcell hb5; have hz5 := hb5.size; (try simp only [World.size_alloc, World.size_setCell, World.heap_drewN] at hb5 hc5 hf5 hz5); (try have ha05 : w.heap.size < w5.heap.size := by omega); (try have ha15 : w.heap.size + 1 < w5.heap.size := by omega); (try have ha25 : w.heap.size + 2 < w5.heap.size := by omega); (try have hal5 : w.heap.size ≤ w5.heap.size := by omega); (try have ham5 : w.heap.size < w5.heap.size + 2 := by omega))
        go_ret
        go_light
        exact ⟨rfl, by (repeat' (first | (with_reducible exact Below.refl _ _) | (with_reducible assumption) | (with_reducible refine Below.trans ?_ (Below.mono (by with_reducible assumption) ?_)) | (with_reducible refine Below.alloc ?_ ?_ _) | (with_reducible refine Below.setCell ?_ ?_ _) | (with_reducible refine below_drewN ?_ _) | (with_reducible refine Below.drew ?_) | go_size))⟩
    · have HT2 := Lib.hid T2
      clear T2
      generalize taiV z n d m = va at *
      clear ht m1
      go_enter Try.func10, Try.ntmps10
      go_wp2_with fail
      refine (HT1.out _ (HZ.out.below HB0)).mono ?_; rintro e w1 ⟨rfl, hb1⟩
      have HB1 : Below w.heap.size w w1 := HB0.trans (hb1.mono HB0.size)
      have q0 : w1.cell? ⟨w.heap.size, 0, none⟩ = some (.slice A n c) := (hb1.cell (p := ⟨w.heap.size, 0, none⟩) (by simp; omega)).trans (by simp [go_sem])
      have q1 : w1.cell? ⟨w.heap.size, 1, none⟩ = some (.int .i64 x) := (hb1.cell (p := ⟨w.heap.size, 1, none⟩) (by simp; omega)).trans (by simp [go_sem])
      have q2 : w1.cell? ⟨w.heap.size + 1, 0, none⟩ = some (.int .i64 d) := (hb1.cell (p := ⟨w.heap.size + 1, 0, none⟩) (by simp)).trans (by simp [go_sem])
      have q3 : w1.cell? ⟨w.heap.size + 1, 1, none⟩ = some (.int .i64 m) := (hb1.cell (p := ⟨w.heap.size + 1, 1, none⟩) (by simp)).trans (by simp [go_sem])
      have q4 : w1.cell? ⟨w.heap.size + 1 + 1, 0, none⟩ = some (.int .i64 d') := (hb1.cell (p := ⟨w.heap.size + 1 + 1, 0, none⟩) (by simp)).trans (by simp [go_sem])
      have q5 : w1.cell? ⟨w.heap.size + 1 + 1, 1, none⟩ = some (.int .i64 m') := (hb1.cell (p := ⟨w.heap.size + 1 + 1, 1, none⟩) (by simp)).trans (by simp [go_sem])
      have z1 : w.heap.size + 1 + 1 < w1.heap.size := by have := hb1.size; simp at this; omega
      have z1' : w.heap.size + 1 < w1.heap.size := by omega
      clear hb1
      go_wp2_with fail
      refine (HT2.out _ (HZ.out.below HB1)).mono ?_; rintro e w2 ⟨rfl, hb2⟩
      have HB2 : Below w.heap.size w w2 := HB1.trans (hb2.mono HB1.size)
      have p2 := (hb2.cell (p := ⟨w.heap.size + 1, 0, none⟩) z1').trans q2
      have p3 := (hb2.cell (p := ⟨w.heap.size + 1, 1, none⟩) z1').trans q3
      have p4 := (hb2.cell (p := ⟨w.heap.size + 1 + 1, 0, none⟩) z1).trans q4
      have p5 := (hb2.cell (p := ⟨w.heap.size + 1 + 1, 1, none⟩) z1).trans q5
      have z2 := HB2.size
      clear hb2 q0 q1 q2 q3 q4 q5 HB0 HB1 HT1 HT2 HZ
      go_wp2_with (go_at_call 14; refine (known4 _).mono ?_; rintro e w5 ⟨rfl, hb5⟩; obtain ⟨hc5, hf5⟩ := bcell hb5; have hz5 := hb5.size; (try simp only [World.size_alloc, World.size_setCell, World.heap_drewN] at hb5 hc5 hf5 hz5); (try have ha05 : w.heap.size < w5.heap.size := by omega); (try have ha15 : w.heap.size + 1 < w5.heap.size := by omega); (try have ha25 : w.heap.size + 2 < w5.heap.size := by omega); (try have hal5 : w.heap.size ≤ w5.heap.size := by omega); (try have ham5 : w.heap.size < w5.heap.size + 2 := by omega))
      go_ret
      go_light
      exact ⟨rfl, by (repeat' (first | (with_reducible exact Below.refl _ _) | (with_reducible assumption) | (with_reducible refine Below.trans ?_ (Below.mono (by with_reducible assumption) ?_)) | (with_reducible refine Below.alloc ?_ ?_ _) | (with_reducible refine Below.setCell ?_ ?_ _) | (with_reducible refine below_drewN ?_ _) | (with_reducible refine Below.drew ?_) | go_size))⟩
  · have HT1 := Lib.hid T1
    clear T1
    have HT2' : ∃ v r : Int, Hid (∀ w : World, FlatAt w A 2 n z → Calls Try.prog 17 #[.agg #[.slice A n c, .int .i64 x], .agg #[.int .i64 d', .int .i64 m']] w fun e w' => e = .returned (.tuple #[.int .i64 v, .int .i64 r]) ∧ Below w.heap.size w w') := by
      rcases tai_some A n c x d' m' z (by unfold maxLen; omega) h3 h4 with ⟨_, _, _, T2⟩ | T2
      · exact ⟨_, _, Lib.hid T2⟩
      · exact ⟨_, _, Lib.hid T2⟩
    obtain ⟨v, r, HT2⟩ := HT2'
    go_enter Try.func10, Try.ntmps10
    go_wp2_with fail
    refine (HT1.out _ (HZ.out.below HB0)).mono ?_; rintro e w1 ⟨rfl, hb1⟩
    have HB1 : Below w.heap.size w w1 := HB0.trans (hb1.mono HB0.size)
    have q0 : w1.cell? ⟨w.heap.size, 0, none⟩ = some (.slice A n c) := (hb1.cell (p := ⟨w.heap.size, 0, none⟩) (by simp; omega)).trans (by simp [go_sem])
    have q1 : w1.cell? ⟨w.heap.size, 1, none⟩ = some (.int .i64 x) := (hb1.cell (p := ⟨w.heap.size, 1, none⟩) (by simp; omega)).trans (by simp [go_sem])
    have q2 : w1.cell? ⟨w.heap.size + 1, 0, none⟩ = some (.int .i64 d) := (hb1.cell (p := ⟨w.heap.size + 1, 0, none⟩) (by simp)).trans (by simp [go_sem])
    have q3 : w1.cell? ⟨w.heap.size + 1, 1, none⟩ = some (.int .i64 m) := (hb1.cell (p := ⟨w.heap.size + 1, 1, none⟩) (by simp)).trans (by simp [go_sem])
    have q4 : w1.cell? ⟨w.heap.size + 1 + 1, 0, none⟩ = some (.int .i64 d') := (hb1.cell (p := ⟨w.heap.size + 1 + 1, 0, none⟩) (by simp)).trans (by simp [go_sem])
    have q5 : w1.cell? ⟨w.heap.size + 1 + 1, 1, none⟩ = some (.int .i64 m') := (hb1.cell (p := ⟨w.heap.size + 1 + 1, 1, none⟩) (by simp)).trans (by simp [go_sem])
    have z1 : w.heap.size + 1 + 1 < w1.heap.size := by have := hb1.size; simp at this; omega
    have z1' : w.heap.size + 1 < w1.heap.size := by omega
    clear hb1
    go_wp2_with fail
    refine (HT2.out _ (HZ.out.below HB1)).mono ?_; rintro e w2 ⟨rfl, hb2⟩
    have HB2 : Below w.heap.size w w2 := HB1.trans (hb2.mono HB1.size)
    have p2 := (hb2.cell (p := ⟨w.heap.size + 1, 0, none⟩) z1').trans q2
    have p3 := (hb2.cell (p := ⟨w.heap.size + 1, 1, none⟩) z1').trans q3
    have p4 := (hb2.cell (p := ⟨w.heap.size + 1 + 1, 0, none⟩) z1).trans q4
    have p5 := (hb2.cell (p := ⟨w.heap.size + 1 + 1, 1, none⟩) z1).trans q5
    have z2 := HB2.size
    clear hb2 q0 q1 q2 q3 q4 q5 HB0 HB1 HT1 HT2 HZ
    go_wp2_with (go_at_call 14; refine (known4 _).mono ?_; rintro e w5 ⟨rfl, hb5⟩; obtain ⟨hc5, hf5⟩ := bcell hb5; have hz5 := hb5.size; (try simp only [World.size_alloc, World.size_setCell, World.heap_drewN] at hb5 hc5 hf5 hz5); (try have ha05 : w.heap.size < w5.heap.size := by omega); (try have ha15 : w.heap.size + 1 < w5.heap.size := by omega); (try have ha25 : w.heap.size + 2 < w5.heap.size := by omega); (try have hal5 : w.heap.size ≤ w5.heap.size := by omega); (try have ham5 : w.heap.size < w5.heap.size + 2 := by omega))
    go_ret
    go_light
    exact ⟨rfl, by (repeat' (first | (with_reducible exact Below.refl _ _) | (with_reducible assumption) | (with_reducible refine Below.trans ?_ (Below.mono (by with_reducible assumption) ?_)) | (with_reducible refine Below.alloc ?_ ?_ _) | (with_reducible refine Below.setCell ?_ ?_ _) | (with_reducible refine below_drewN ?_ _) | (with_reducible refine Below.drew ?_) | go_size))⟩

set_option maxRecDepth 100000 in
theorem scaleOrder_lifted (os : Os) (started : os.Started) (H : Type) (enc : TypeId × Value → H) :
    ReturnsInHanded {} Try.checked os 10 .any (Rows.scaleOrderSpec.pre6 enc Try.prog Try.f10 Rows.scaleOrderRow.domain false) (Rows.scaleOrderSpec.post enc Try.prog Try.f10 false true false false) := by
  refine returnsInHanded_of_change_sized (C := Try.checked) law_own started (by kernel_rfl) Try.func10
    (ChangeSpec.witness6 (enc := enc) (C := Try.checked) false ⟨#[], #[.agg #[.slice none 0 0, .int .i64 0], .agg #[.int .i64 0, .int .i64 0], .agg #[.int .i64 0, .int .i64 0]], []⟩ 8 (by kernel_rfl) (by kernel_rfl) (by kernel_rfl) (by kernel_rfl)) ?_
  intro W base args ds gs before hval0 hW hcnd hsz0 _
  have hval : ∀ (j : Nat) t v, Try.f10.params[j]? = some t → args[j]? = some v → Value.okWide Try.prog W .any base t v := hval0
  have hsz : (DataW.weightsEach Try.prog (Try.f10.params.toList ++ Rows.scaleOrderSpec.plain.varTypes Try.prog) (ds ++ gs)).all (· ≤ reachBytes) = true := hsz0
  have hW' := hW
  obtain ⟨p, q, hA0, hV, rfl, hfz, hnd⟩ := hW
  have hA : DataW.TrodAll enc Try.prog W 0 (fun _ => true) true Try.f10.params.toList args.toList ds p := hA0
  rw [Try.params10] at hA hval hsz
  have hsame : (Rows.scaleOrderSpec.fn H (ds ++ gs)).results = [.lit (.bool true)] ∧ (Rows.scaleOrderSpec.fn H (ds ++ gs)).args = ds ∧ (Rows.scaleOrderSpec.fn H (ds ++ gs)).vars = [] → ∀ W', Below W.heap.size W W' → Rows.scaleOrderSpec.post enc Try.prog Try.f10 false true false false W args (.bool true) W' :=
    fun h W' hb => law_post (tb := 4) hW' law_laid (by kernel_rfl) rfl Try.underlying4 h.1 h.2.1 rfl h.2.2 hb
  obtain ⟨v0, vs0, d0, ds0, p0, q0, hargs, rfl, rfl, h0, r0⟩ := trodAll_cons hA
  obtain ⟨v1, vs1, d1, ds1, p1, q1, rfl, rfl, rfl, h1, r1⟩ := trodAll_cons r0
  obtain ⟨v2, vs2, d2, ds2, p2, q2, rfl, rfl, rfl, h2, r2⟩ := trodAll_cons r1
  obtain ⟨rfl, rfl, rfl⟩ := trodAll_nil r2
  obtain rfl : args = #[v0, v1, v2] := by cases args; simp_all
  obtain ⟨rfl, rfl⟩ := trodVars_none hV
  have hpost := hsame ⟨rfl, rfl, rfl⟩
  clear hsame hA0 hval0 hsz0
  obtain ⟨A, n, c, z, x, rfl, hn, hz, _⟩ := open_table (hval 0 30 v0 rfl rfl) h0
  obtain ⟨d, m, rfl, _, _⟩ := open_utc (hval 1 32 v1 rfl rfl) h1
  obtain ⟨d', m', rfl, _, _⟩ := open_utc (hval 2 32 v2 rfl rfl) h2
  by_cases h : n ≤ 200 ∧ -100000 ≤ d ∧ d ≤ 100000 ∧ -100000 ≤ d' ∧ d' ≤ 100000
  · obtain ⟨g0, g1, g2, g3, g4⟩ := h
    exact (order_in A n c x d m d' m' z W hz g0 g1 g2 g3 g4).mono fun e W' ⟨he, hb⟩ => ⟨_, he, hpost W' hb⟩
  · exact (order_out A n c x d m d' m' W hn (by omega)).mono fun e W' ⟨he, hb⟩ => ⟨_, he, hpost W' hb⟩
theorem scaleOrder_holds : Rows.ScaleOrderSaid :=
  OpenClaim.holds_of_wide 10 Try.f10 rfl rfl rfl rfl rfl rfl rfl ⟨rfl, rfl, rfl, rfl, rfl⟩ rfl rfl rfl rfl rfl (by kernel_rfl) Try.func10 (by kernel_rfl)
    (of_decide_eq_true (by kernel_rfl)) (by unfold Func.isWrapper; first | (rw [if_pos (by decide +kernel)]; kernel_rfl) | (rw [if_neg (by decide +kernel)]; exact ⟨rfl, rfl⟩))
    (fun os started H enc _ => scaleOrder_lifted os started H enc)
end Go.Proofs.Ytklahiogcpojmaa
