/- wire.isWord: whether a word is one. -/
import Derived.Test.YtdffldlcbihjmaaDoorWdIs
set_option linter.unusedSimpArgs false
set_option linter.unusedVariables false
namespace Go.Proofs.YtdffldlcbihjmaaDoor
open Go.RowKit Go.Sort

def wdOf (k o s m1 c1 m2 c2 : Int) (L : List Mr) : Wd := ⟨k, o, s, m1, c1, m2, c2, L.map Mr.r⟩
set_option maxRecDepth 100000 in
set_option maxHeartbeats 4000000 in
theorem wd_is_head (k o s m1 c1 m2 c2 : Int) (A : Option Addr) (n c : Nat) (w : World) (h : ¬ (0 ≤ o ∧ o < 5 ∧ 0 ≤ s ∧ s ≤ 1099511627776)) :
    Calls Tryd.prog 47 #[wdV k o s m1 c1 m2 c2 (.slice A n c)] w fun e w' => e = .returned (.bool false) ∧ Below w.heap.size w w' := by
  have HB0 : Hid (Below w.heap.size w (w.alloc (.cells (wdC k o s m1 c1 m2 c2 (.slice A n c)) 26))) := Lib.hid (by (repeat' (first | (with_reducible exact Below.refl _ _) | (with_reducible assumption) | (with_reducible refine Below.trans ?_ (Below.mono (by with_reducible assumption) ?_)) | (with_reducible refine Below.alloc ?_ ?_ _) | (with_reducible refine Below.setCell ?_ ?_ _) | (with_reducible refine below_drewN ?_ _) | (with_reducible refine Below.drew ?_) | go_size)))
  by_cases h1 : o < 0
  · have t1 : decide (o < 0) = true := by simpa using h1
    clear h h1
    go_enter Tryd.func47, Tryd.ntmps47
    go_wp2
    go_ret
    exact ⟨rfl, HB0.out⟩
  have t1 : decide (o < 0) = false := by simpa using h1
  by_cases h2 : 5 ≤ o
  · have t2 : decide (5 ≤ o) = true := by simpa using h2
    clear h h1 h2
    go_enter Tryd.func47, Tryd.ntmps47
    go_wp2
    go_ret
    exact ⟨rfl, HB0.out⟩
  have t2 : decide (5 ≤ o) = false := by simpa using h2
  by_cases h3 : s < 0
  · have t3 : decide (s < 0) = true := by simpa using h3
    clear h h1 h2 h3
    go_enter Tryd.func47, Tryd.ntmps47
    go_wp2
    go_ret
    exact ⟨rfl, HB0.out⟩
  have t3 : decide (s < 0) = false := by simpa using h3
  have t4 : decide (1099511627776 < s) = true := by simp; omega
  clear h h1 h2 h3
  go_enter Tryd.func47, Tryd.ntmps47
  go_wp2
  go_ret
  exact ⟨rfl, HB0.out⟩
/-- A kind that there is not; an ack. -/
def isAck (m1 c1 m2 c2 : Int) (n : Nat) : Bool := decide (m1 = 0 ∧ c1 = 0 ∧ m2 = 0 ∧ c2 = 0 ∧ n = 0)
set_option maxRecDepth 100000 in
set_option maxHeartbeats 4000000 in
theorem wd_is_kind (k o s m1 c1 m2 c2 : Int) (A : Option Addr) (n c : Nat) (w : World) (h : 0 ≤ o ∧ o < 5 ∧ 0 ≤ s ∧ s ≤ 1099511627776) (k1 : k ≠ 1) (k2 : k ≠ 2) (k3 : k ≠ 3) :
    Calls Tryd.prog 47 #[wdV k o s m1 c1 m2 c2 (.slice A n c)] w fun e w' => e = .returned (.bool false) ∧ Below w.heap.size w w' := by
  have HB0 : Hid (Below w.heap.size w ((w.alloc (.cells (wdC k o s m1 c1 m2 c2 (.slice A n c)) 26)).alloc (.cells #[.int .i64 0, .int .i64 0] 23))) := Lib.hid (by (repeat' (first | (with_reducible exact Below.refl _ _) | (with_reducible assumption) | (with_reducible refine Below.trans ?_ (Below.mono (by with_reducible assumption) ?_)) | (with_reducible refine Below.alloc ?_ ?_ _) | (with_reducible refine Below.setCell ?_ ?_ _) | (with_reducible refine below_drewN ?_ _) | (with_reducible refine Below.drew ?_) | go_size)))
  have t1 : decide (o < 0) = false := by simp; omega
  have t2 : decide (5 ≤ o) = false := by simp; omega
  have t3 : decide (s < 0) = false := by simp; omega
  have t4 : decide (1099511627776 < s) = false := by simp; omega
  have q1 : (k == 1) = false := by simpa using k1
  have q2 : (k == 2) = false := by simpa using k2
  have q3 : (k == 3) = false := by simpa using k3
  clear h k1 k2 k3
  go_enter Tryd.func47, Tryd.ntmps47
  go_wp2
  go_ret
  exact ⟨rfl, HB0.out⟩
set_option maxRecDepth 100000 in
set_option maxHeartbeats 4000000 in
theorem wd_is_ack (o s m1 c1 m2 c2 : Int) (A : Option Addr) (n c : Nat) (w : World) (h : 0 ≤ o ∧ o < 5 ∧ 0 ≤ s ∧ s ≤ 1099511627776) :
    Calls Tryd.prog 47 #[wdV 2 o s m1 c1 m2 c2 (.slice A n c)] w fun e w' => e = .returned (.bool (isAck m1 c1 m2 c2 n)) ∧ Below w.heap.size w w' := by
  have HB0 : Hid (Below w.heap.size w ((w.alloc (.cells (wdC 2 o s m1 c1 m2 c2 (.slice A n c)) 26)).alloc (.cells #[.int .i64 0, .int .i64 0] 23))) := Lib.hid (by (repeat' (first | (with_reducible exact Below.refl _ _) | (with_reducible assumption) | (with_reducible refine Below.trans ?_ (Below.mono (by with_reducible assumption) ?_)) | (with_reducible refine Below.alloc ?_ ?_ _) | (with_reducible refine Below.setCell ?_ ?_ _) | (with_reducible refine below_drewN ?_ _) | (with_reducible refine Below.drew ?_) | go_size)))
  have t1 : decide (o < 0) = false := by simp; omega
  have t2 : decide (5 ≤ o) = false := by simp; omega
  have t3 : decide (s < 0) = false := by simp; omega
  have t4 : decide (1099511627776 < s) = false := by simp; omega
  clear h
  by_cases e1 : m1 = 0
  rotate_left
  · have q1 : (m1 == 0) = false := by simpa using e1
    have HE : Hid (isAck m1 c1 m2 c2 n = false) := Lib.hid (by simp [isAck, e1])
    go_enter Tryd.func47, Tryd.ntmps47
    go_wp2
    go_ret
    exact ⟨by rw [HE.out]; rfl, HB0.out⟩
  subst e1
  by_cases e2 : c1 = 0
  rotate_left
  · have q1 : (c1 == 0) = false := by simpa using e2
    have HE : Hid (isAck 0 c1 m2 c2 n = false) := Lib.hid (by simp [isAck, e2])
    go_enter Tryd.func47, Tryd.ntmps47
    go_wp2
    go_ret
    exact ⟨by rw [HE.out]; rfl, HB0.out⟩
  subst e2
  by_cases e3 : m2 = 0
  rotate_left
  · have q1 : (m2 == 0) = false := by simpa using e3
    have HE : Hid (isAck 0 0 m2 c2 n = false) := Lib.hid (by simp [isAck, e3])
    go_enter Tryd.func47, Tryd.ntmps47
    go_wp2
    go_ret
    exact ⟨by rw [HE.out]; rfl, HB0.out⟩
  subst e3
  by_cases e4 : c2 = 0
  rotate_left
  · have q1 : (c2 == 0) = false := by simpa using e4
    have HE : Hid (isAck 0 0 0 c2 n = false) := Lib.hid (by simp [isAck, e4])
    go_enter Tryd.func47, Tryd.ntmps47
    go_wp2
    go_ret
    exact ⟨by rw [HE.out]; rfl, HB0.out⟩
  subst e4
  by_cases e5 : n = 0
  · have HE : Hid (isAck 0 0 0 0 n = true) := Lib.hid (by simp [isAck, e5])
    have q1 : ((n : Int) == 0) = true := by simp [e5]
    have q1' : (n == 0) = true := by simp [e5]
    clear e5
    go_enter Tryd.func47, Tryd.ntmps47
    go_wp2
    go_ret
    exact ⟨by rw [HE.out]; rfl, HB0.out⟩
  · have HE : Hid (isAck 0 0 0 0 n = false) := Lib.hid (by simp [isAck, e5])
    have q1 : ((n : Int) == 0) = false := by simp; omega
    have q1' : (n == 0) = false := by simpa using e5
    clear e5
    go_enter Tryd.func47, Tryd.ntmps47
    go_wp2
    go_ret
    exact ⟨by rw [HE.out]; rfl, HB0.out⟩
def rowAnd (m1 c1 m2 c2 : Int) (b : Bool) : Bool := decide (m1 = 0 ∧ c1 = 0 ∧ m2 = 0 ∧ c2 = 0) && b
set_option maxRecDepth 100000 in
set_option maxHeartbeats 4000000 in
theorem wd_is_row (o s m1 c1 m2 c2 : Int) (A : Option Addr) (c : Nat) (L : List Mr) (w : World) (h : 0 ≤ o ∧ o < 5 ∧ 0 ≤ s ∧ s ≤ 1099511627776) (hrow : RowAt w (.slice A L.length c) L) (hkb : ∀ m ∈ L, isBy m.r.key) (hl : L.length ≤ 100000) :
    Calls Tryd.prog 47 #[wdV 1 o s m1 c1 m2 c2 (.slice A L.length c)] w fun e w' => e = .returned (.bool (rowAnd m1 c1 m2 c2 (isRowB o s (L.map Mr.r)))) ∧ Below w.heap.size w w' := by
  have hb0 : Below w.heap.size w ((w.alloc (.cells (wdC 1 o s m1 c1 m2 c2 (.slice A L.length c)) 26)).alloc (.cells #[.int .i64 0, .int .i64 0] 23)) := by (repeat' (first | (with_reducible exact Below.refl _ _) | (with_reducible assumption) | (with_reducible refine Below.trans ?_ (Below.mono (by with_reducible assumption) ?_)) | (with_reducible refine Below.alloc ?_ ?_ _) | (with_reducible refine Below.setCell ?_ ?_ _) | (with_reducible refine below_drewN ?_ _) | (with_reducible refine Below.drew ?_) | go_size))
  have HR := Lib.hid (fun (W : World) (q : Below w.heap.size w W) m1 c1 m2 c2 => wd_row 1 o s m1 c1 m2 c2 (.slice A L.length c) L W (hrow.below q) hkb hl h.2.2.1 h.2.2.2)
  have HB0 := Lib.hid hb0
  have t1 : decide (o < 0) = false := by simp; omega
  have t2 : decide (5 ≤ o) = false := by simp; omega
  have t3 : decide (s < 0) = false := by simp; omega
  have t4 : decide (1099511627776 < s) = false := by simp; omega
  clear h hrow hkb hl hb0
  by_cases e1 : m1 = 0
  rotate_left
  · have q1 : (m1 == 0) = false := by simpa using e1
    have HE : Hid (rowAnd m1 c1 m2 c2 (isRowB o s (L.map Mr.r)) = false) := Lib.hid (by simp [rowAnd, e1])
    clear HR
    go_enter Tryd.func47, Tryd.ntmps47
    go_wp2
    go_ret
    exact ⟨by rw [HE.out]; rfl, HB0.out⟩
  subst e1
  by_cases e2 : c1 = 0
  rotate_left
  · have q1 : (c1 == 0) = false := by simpa using e2
    have HE : Hid (rowAnd 0 c1 m2 c2 (isRowB o s (L.map Mr.r)) = false) := Lib.hid (by simp [rowAnd, e2])
    clear HR
    go_enter Tryd.func47, Tryd.ntmps47
    go_wp2
    go_ret
    exact ⟨by rw [HE.out]; rfl, HB0.out⟩
  subst e2
  by_cases e3 : m2 = 0
  rotate_left
  · have q1 : (m2 == 0) = false := by simpa using e3
    have HE : Hid (rowAnd 0 0 m2 c2 (isRowB o s (L.map Mr.r)) = false) := Lib.hid (by simp [rowAnd, e3])
    clear HR
    go_enter Tryd.func47, Tryd.ntmps47
    go_wp2
    go_ret
    exact ⟨by rw [HE.out]; rfl, HB0.out⟩
  subst e3
  by_cases e4 : c2 = 0
  rotate_left
  · have q1 : (c2 == 0) = false := by simpa using e4
    have HE : Hid (rowAnd 0 0 0 c2 (isRowB o s (L.map Mr.r)) = false) := Lib.hid (by simp [rowAnd, e4])
    clear HR
    go_enter Tryd.func47, Tryd.ntmps47
    go_wp2
    go_ret
    exact ⟨by rw [HE.out]; rfl, HB0.out⟩
  subst e4
  have HE : Hid (rowAnd 0 0 0 0 (isRowB o s (L.map Mr.r)) = isRowB o s (L.map Mr.r)) := Lib.hid (by simp [rowAnd])
  have HR0 := Lib.hid (HR.out _ HB0.out 0 0 0 0)
  clear HR
  generalize isRowB o s (L.map Mr.r) = bb at *
  go_enter Tryd.func47, Tryd.ntmps47
  go_wp2_with fail
  refine HR0.out.mono ?_; rintro e w1 ⟨rfl, k1⟩
  have HBF := Lib.hid (HB0.out.trans (k1.mono HB0.out.size))
  clear k1 HR0
  go_wp2
  go_ret
  exact ⟨by rw [HE.out]; rfl, HBF.out⟩
set_option maxRecDepth 100000 in
set_option maxHeartbeats 4000000 in
theorem wd_is_beat (o s m1 c1 m2 c2 : Int) (A : Option Addr) (n c : Nat) (w : World) (h : 0 ≤ o ∧ o < 5 ∧ 0 ≤ s ∧ s ≤ 1099511627776) :
    Calls Tryd.prog 47 #[wdV 3 o s m1 c1 m2 c2 (.slice A n c)] w fun e w' => e = .returned (.bool (isStampB m1 c1 && (isStampB m2 c2 && decide (n = 0)))) ∧ Below w.heap.size w w' := by
  have hb0 : Below w.heap.size w ((w.alloc (.cells (wdC 3 o s m1 c1 m2 c2 (.slice A n c)) 26)).alloc (.cells #[.int .i64 0, .int .i64 0] 23)) := by (repeat' (first | (with_reducible exact Below.refl _ _) | (with_reducible assumption) | (with_reducible refine Below.trans ?_ (Below.mono (by with_reducible assumption) ?_)) | (with_reducible refine Below.alloc ?_ ?_ _) | (with_reducible refine Below.setCell ?_ ?_ _) | (with_reducible refine below_drewN ?_ _) | (with_reducible refine Below.drew ?_) | go_size))
  have X0 := Lib.hid ((Wd8.new w 26 3 o s m1 c1 m2 c2 (.slice A n c)).below (W' := (w.alloc (.cells (wdC 3 o s m1 c1 m2 c2 (.slice A n c)) 26)).alloc (.cells #[.int .i64 0, .int .i64 0] 23)) ((Below.refl _ _).alloc (Nat.le_refl _) _))
  have HB0 := Lib.hid hb0
  have HS1 := Lib.hid (fun W => wd_stamp m1 c1 W)
  have HS2 := Lib.hid (fun W => wd_stamp m2 c2 W)
  have t1 : decide (o < 0) = false := by simp; omega
  have t2 : decide (5 ≤ o) = false := by simp; omega
  have t3 : decide (s < 0) = false := by simp; omega
  have t4 : decide (1099511627776 < s) = false := by simp; omega
  clear h hb0
  cases b1 : isStampB m1 c1
  · rw [b1] at HS1
    clear b1 HS2
    go_enter Tryd.func47, Tryd.ntmps47
    go_wp2_with fail
    refine (HS1.out _).mono ?_; rintro e w1 ⟨rfl, k1⟩
    have HB1 := Lib.hid (HB0.out.trans (k1.mono HB0.out.size))
    clear k1 HS1 X0 HB0
    go_wp2
    go_ret
    exact ⟨rfl, HB1.out⟩
  rw [b1] at HS1
  clear b1
  cases b2 : isStampB m2 c2
  · rw [b2] at HS2
    clear b2
    go_enter Tryd.func47, Tryd.ntmps47
    go_wp2_with fail
    refine (HS1.out _).mono ?_; rintro e w1 ⟨rfl, k1⟩
    have HB1 := Lib.hid (HB0.out.trans (k1.mono HB0.out.size))
    obtain ⟨x0, x1, x2, x3, x4, x5, x6, x7, xlt⟩ := X0.out.below k1
    have HX1 := Lib.hid (X0.out.below k1)
    clear k1 HS1 X0 HB0
    go_wp2_with fail
    refine (HS2.out _).mono ?_; rintro e w2 ⟨rfl, k2⟩
    have HB2 := Lib.hid (HB1.out.trans (k2.mono HB1.out.size))
    clear k2 HS2 x0 x1 x2 x3 x4 x5 x6 x7 xlt HX1
    go_wp2
    go_ret
    exact ⟨rfl, HB2.out⟩
  rw [b2] at HS2
  clear b2
  by_cases h0 : n = 0
  · have q1 : ((n : Int) == 0) = true := by simp [h0]
    have q2 : (n == 0) = true := by simp [h0]
    have HE : Hid (decide (n = 0) = true) := Lib.hid (by simp [h0])
    clear h0
    go_enter Tryd.func47, Tryd.ntmps47
    go_wp2_with fail
    refine (HS1.out _).mono ?_; rintro e w1 ⟨rfl, k1⟩
    have HB1 := Lib.hid (HB0.out.trans (k1.mono HB0.out.size))
    obtain ⟨x0, x1, x2, x3, x4, x5, x6, x7, xlt⟩ := X0.out.below k1
    have HX1 := Lib.hid (X0.out.below k1)
    clear k1 HS1 X0 HB0
    go_wp2_with fail
    refine (HS2.out _).mono ?_; rintro e w2 ⟨rfl, k2⟩
    have HB2 := Lib.hid (HB1.out.trans (k2.mono HB1.out.size))
    obtain ⟨y0, y1, y2, y3, y4, y5, y6, y7, ylt⟩ := HX1.out.below k2
    clear k2 HS2 x0 x1 x2 x3 x4 x5 x6 x7 xlt HX1
    go_wp2
    go_ret
    exact ⟨by rw [HE.out]; rfl, HB2.out⟩
  · have q1 : ((n : Int) == 0) = false := by simp; omega
    have q2 : (n == 0) = false := by simpa using h0
    have HE : Hid (decide (n = 0) = false) := Lib.hid (by simp [h0])
    clear h0
    go_enter Tryd.func47, Tryd.ntmps47
    go_wp2_with fail
    refine (HS1.out _).mono ?_; rintro e w1 ⟨rfl, k1⟩
    have HB1 := Lib.hid (HB0.out.trans (k1.mono HB0.out.size))
    obtain ⟨x0, x1, x2, x3, x4, x5, x6, x7, xlt⟩ := X0.out.below k1
    have HX1 := Lib.hid (X0.out.below k1)
    clear k1 HS1 X0 HB0
    go_wp2_with fail
    refine (HS2.out _).mono ?_; rintro e w2 ⟨rfl, k2⟩
    have HB2 := Lib.hid (HB1.out.trans (k2.mono HB1.out.size))
    obtain ⟨y0, y1, y2, y3, y4, y5, y6, y7, ylt⟩ := HX1.out.below k2
    clear k2 HS2 x0 x1 x2 x3 x4 x5 x6 x7 xlt HX1
    go_wp2
    go_ret
    exact ⟨by rw [HE.out]; rfl, HB2.out⟩
theorem bare_eq (k o s m1 c1 m2 c2 : Int) (rs : List Rc) : bareW ⟨k, o, s, m1, c1, m2, c2, rs⟩ = decide (m1 = 0 ∧ c1 = 0 ∧ m2 = 0 ∧ c2 = 0) := by
  unfold bareW
  simp only [Bool.decide_and]
theorem wd_is (k o s m1 c1 m2 c2 : Int) (A : Option Addr) (c : Nat) (L : List Mr) (w : World) (hrow : RowAt w (.slice A L.length c) L) (hkb : ∀ m ∈ L, isBy m.r.key) (hl : L.length ≤ 100000) :
    Calls Tryd.prog 47 #[wdV k o s m1 c1 m2 c2 (.slice A L.length c)] w fun e w' => e = .returned (.bool (okW (wdOf k o s m1 c1 m2 c2 L))) ∧ Below w.heap.size w w' := by
  by_cases hh : 0 ≤ o ∧ o < 5 ∧ 0 ≤ s ∧ s ≤ 1099511627776
  · have hd : headW (wdOf k o s m1 c1 m2 c2 L) = true := by simp [headW, wdOf, hh]
    by_cases k1 : k = 1
    · subst k1
      refine (wd_is_row o s m1 c1 m2 c2 A c L w hh hrow hkb hl).mono fun e w' ⟨he, hb⟩ => ⟨by rw [he]; unfold okW; rw [hd]; simp only [wdOf, bare_eq, isRowB, rowAnd, if_true, Bool.true_and]; (first | rfl | congr), hb⟩
    by_cases k2 : k = 2
    · subst k2
      refine (wd_is_ack o s m1 c1 m2 c2 A L.length c w hh).mono fun e w' ⟨he, hb⟩ => ⟨?_, hb⟩
      rw [he]
      unfold okW
      rw [hd]
      congr 2
      simp only [wdOf, bare_eq, isAck]
      cases L <;> simp
    by_cases k3 : k = 3
    · subst k3
      refine (wd_is_beat o s m1 c1 m2 c2 A L.length c w hh).mono fun e w' ⟨he, hb⟩ => ⟨?_, hb⟩
      rw [he]
      unfold okW
      rw [hd]
      congr 2
      simp only [wdOf]
      cases L <;> simp
    · refine (wd_is_kind k o s m1 c1 m2 c2 A L.length c w hh k1 k2 k3).mono fun e w' ⟨he, hb⟩ => ⟨by rw [he]; unfold okW; simp [wdOf, k1, k2, k3], hb⟩
  · have hd : headW (wdOf k o s m1 c1 m2 c2 L) = false := by
      cases hq : headW (wdOf k o s m1 c1 m2 c2 L)
      · rfl
      · exact absurd (headW_bd hq) hh
    refine (wd_is_head k o s m1 c1 m2 c2 A L.length c w hh).mono fun e w' ⟨he, hb⟩ => ⟨by rw [he]; unfold okW; rw [hd]; rfl, hb⟩
end Go.Proofs.YtdffldlcbihjmaaDoor
