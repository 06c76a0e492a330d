/- Stage 10: HlcLives. -/
import Derived.Test.YtmbopdabbegbiaaS10H
import Derived.Test.YtmbopdabbegbiaaLow40
set_option linter.unusedSimpArgs false
set_option linter.unusedVariables false
namespace Go.Proofs.Ytmbopdabbegbiaa
open Go.RowKit

set_option maxHeartbeats 1000000 in
theorem lives_out (A B : Option Addr) (n c m d : Nat) (w : World) (hn : n ≤ maxLen) (hm : m ≤ maxLen) (h : 100 < n ∨ (n ≤ 100 ∧ 100 < m)) :
    Calls Try.prog 5 #[.slice A n c, .slice B m d] w fun e w' => e = .returned (.bool true) ∧ Below w.heap.size w w' := by
  unfold maxLen at hn hm
  rcases h with h | ⟨h1, h⟩
  · have h' : (100 : Int) < (n : Int) := by omega
    go_enter Try.func5, Try.ntmps5
    go_wp2
    go_ret
    go_light
    exact ⟨rfl, by (repeat' (first | (with_reducible exact Below.refl _ _) | (with_reducible assumption) | (with_reducible refine Below.trans ?_ (Below.mono (by with_reducible assumption) ?_)) | (with_reducible refine Below.alloc ?_ ?_ _) | (with_reducible refine Below.setCell ?_ ?_ _) | (with_reducible refine below_drewN ?_ _) | (with_reducible refine Below.drew ?_) | go_size))⟩
  · have h' : (100 : Int) < (m : Int) := by omega
    have h1' : (n : Int) ≤ 100 := by omega
    go_enter Try.func5, Try.ntmps5
    go_wp2
    go_ret
    go_light
    exact ⟨rfl, by (repeat' (first | (with_reducible exact Below.refl _ _) | (with_reducible assumption) | (with_reducible refine Below.trans ?_ (Below.mono (by with_reducible assumption) ?_)) | (with_reducible refine Below.alloc ?_ ?_ _) | (with_reducible refine Below.setCell ?_ ?_ _) | (with_reducible refine below_drewN ?_ _) | (with_reducible refine Below.drew ?_) | go_size))⟩
theorem cmp2_up {m c p q : Int} (h : p < m ∨ (p = m ∧ q < c)) : cmp2 m c p q = 1 := by
  rcases h with h | ⟨rfl, h⟩
  · have h2 : ¬ m < p := by omega
    simp [cmp2, or2, cmp1, h, h2]
  · have h2 : ¬ c < q := by omega
    simp [cmp2, or2, cmp1, h, h2]
theorem run_milli (m c : Int) (w : World) : (Instr.field 32 (.agg #[.int .i64 m, .int .i64 c]) 0).run Try.prog w = .ok (.int .i64 m) w := by kernel_rfl
set_option maxHeartbeats 8000000 in
theorem lives_in (A A2 : Option Addr) (n c n2 c2 : Nat) (z z2 : Nat → Int) (w : World) (hz : IntsAt w A n z) (hz2 : IntsAt w A2 n2 z2) (hn : n ≤ 100) (hn2 : n2 ≤ 100) :
    Calls Try.prog 5 #[.slice A n c, .slice A2 n2 c2] w fun e w' => e = .returned (.bool true) ∧ Below w.heap.size w w' := by
  have HZ := Lib.hid hz
  have HZ2 := Lib.hid hz2
  clear hz hz2
  have hn' : (n : Int) ≤ 100 := by omega
  have hn2' : (n2 : Int) ≤ 100 := by omega
  go_enter Try.func5, Try.ntmps5
  go_wp2_with fail
  refine (hlc_new_ok 0 _ (by decide)).mono ?_; rintro e w' ⟨rfl, rfl⟩
  have k0 := (Ints3.new w 0 0 0 73).alloc (.cells #[.int .i64 0, .int .i64 0] 32)
  have j0 := Ints2.new1 w (.cells #[.int .i64 0, .int .i64 0, .int .i64 0] 73) 0 0 32
  have HB0 : Below w.heap.size w ((w.alloc (.cells #[.int .i64 0, .int .i64 0, .int .i64 0] 73)).alloc (.cells #[.int .i64 0, .int .i64 0] 32)) := by (repeat' (first | (with_reducible exact Below.refl _ _) | (with_reducible assumption) | (with_reducible refine Below.trans ?_ (Below.mono (by with_reducible assumption) ?_)) | (with_reducible refine Below.alloc ?_ ?_ _) | (with_reducible refine Below.setCell ?_ ?_ _) | (with_reducible refine below_drewN ?_ _) | (with_reducible refine Below.drew ?_) | go_size))
  have K0 := Lib.hid k0
  have J0 := Lib.hid j0
  clear k0 j0
  go_wp2_with fail
  go_loopw [8] (fun i wr => ∃ (k : Nat) (m cc bd : Int), k ≤ n ∧ i = .int .i64 k ∧ (m < bd ∨ (m = 0 ∧ cc = 0 ∧ bd = 0)) ∧ 0 ≤ m ∧ m ≤ 1099511627776 ∧ 0 ≤ bd ∧ bd ≤ 2199023255552 ∧ 0 ≤ cc ∧ cc ≤ k ∧ Ints3 wr w.heap.size m cc bd ∧ Ints2 wr (w.heap.size + 1) m cc ∧ Below w.heap.size w wr) (fun i _ => n - (intOf i).toNat)
  case atStart => exact ⟨0, 0, 0, 0, Nat.zero_le _, rfl, .inr ⟨rfl, rfl, rfl⟩, by omega, by omega, by omega, by omega, by omega, by omega, K0.out, J0.out, HB0⟩
  case round =>
    obtain ⟨k, m, cc, bd, k1, rfl, hv, m0, m1, b0, b1, c0, c1, KI, JI, HB⟩ := hrel
    have HV := Lib.hid hv
    clear K0 J0 HB0 hv
    have lr := JI.lt
    have l0 : w.heap.size < wr.heap.size := by omega
    by_cases hlt : k < n
    · have hk : (k : Int) < (n : Int) := by omega
      obtain ⟨B, O, rfl, hB, hcells⟩ := HZ.out (by omega)
      have lB : B < wr.heap.size := by omega
      have x0 : wr.cell? ⟨B, O + k, none⟩ = some (.int .i64 (z k)) := (HB.cell (p := ⟨B, O + k, none⟩) hB).trans (hcells k hlt).1
      clear hcells
      have lb := low40_bd (z k)
      have hL : bits .and .i64 (z k) 1099511627775 = low40 (z k) := rfl
      generalize low40 (z k) = D at *
      have HM := Lib.hid (isMilli_of (n := D) lb.1 (by omega))
      rcases (show (D ≤ m ∧ m < bd) ∨ (m < D ∧ D < bd) ∨ (D ≤ m ∧ bd ≤ m) ∨ (m < D ∧ bd ≤ D) from by omega) with ⟨p1, p2⟩ | ⟨p1, p2⟩ | ⟨p1, p2⟩ | ⟨p1, p2⟩
      · go_wp2_with fail
        refine (hlc_send_ok1 _ m cc bd D _ KI HM.out p1 (by omega) p2).mono ?_; rintro e w2 ⟨rfl, ho2, k2⟩
        have j2 : Ints2 w2 (w.heap.size + 1) m cc := JI.only ho2 (by omega)
        have HB2 : Below w.heap.size w w2 := HB.trans (ho2.below (Nat.le_refl _) (by omega))
        have l2 := j2.lt
        have f0 := j2.f0
        have f1 := j2.f1
        have y0 := j2.c0
        have y1 := j2.c1
        clear ho2 x0
        set_option maxRecDepth 5000 in go_wp2
        go_roundw
        case rel =>
          refine ⟨k + 1, m, cc + 1, bd, by omega, by go_num, .inl p2, by omega, by omega, by omega, by omega, by omega, by omega, ?_, ?_, ?_⟩
          · (repeat' (first | (with_reducible assumption) | (with_reducible apply Ints3.set0) | (with_reducible apply Ints3.set1) | (with_reducible apply Ints3.set2) | (with_reducible refine Ints3.other ?_ ?_ _) | (with_reducible refine Ints3.alloc ?_ _) | (with_reducible refine Ints3.drewN ?_ _) | (with_reducible refine Ints3.drew ?_) | (with_reducible exact Ints3.new _ _ _ _ _) | go_size))
          · (repeat' (first | (with_reducible assumption) | (with_reducible apply Ints2.set0) | (with_reducible apply Ints2.set1) | (with_reducible refine Ints2.other ?_ ?_ _) | (with_reducible refine Ints2.alloc ?_ _) | (with_reducible refine Ints2.drewN ?_ _) | (with_reducible refine Ints2.drew ?_) | (with_reducible exact Ints2.new _ _ _ _) | go_size))
          · (repeat' (first | (with_reducible exact Below.refl _ _) | (with_reducible assumption) | (with_reducible refine Below.trans ?_ (Below.mono (by with_reducible assumption) ?_)) | (with_reducible refine Below.alloc ?_ ?_ _) | (with_reducible refine Below.setCell ?_ ?_ _) | (with_reducible refine below_drewN ?_ _) | (with_reducible refine Below.drew ?_) | go_size))
        case measure => simp [intOf]; omega
      · go_wp2_with fail
        refine (hlc_send_ok2 _ m cc bd D _ KI HM.out p1 p2).mono ?_; rintro e w2 ⟨rfl, ho2, k2⟩
        have j2 : Ints2 w2 (w.heap.size + 1) m cc := JI.only ho2 (by omega)
        have HB2 : Below w.heap.size w w2 := HB.trans (ho2.below (Nat.le_refl _) (by omega))
        have l2 := j2.lt
        have f0 := j2.f0
        have f1 := j2.f1
        have y0 := j2.c0
        have y1 := j2.c1
        clear ho2 x0
        set_option maxRecDepth 5000 in go_wp2
        go_roundw
        case rel =>
          refine ⟨k + 1, D, 0, bd, by omega, by go_num, .inl p2, by omega, by omega, by omega, by omega, by omega, by omega, ?_, ?_, ?_⟩
          · (repeat' (first | (with_reducible assumption) | (with_reducible apply Ints3.set0) | (with_reducible apply Ints3.set1) | (with_reducible apply Ints3.set2) | (with_reducible refine Ints3.other ?_ ?_ _) | (with_reducible refine Ints3.alloc ?_ _) | (with_reducible refine Ints3.drewN ?_ _) | (with_reducible refine Ints3.drew ?_) | (with_reducible exact Ints3.new _ _ _ _ _) | go_size))
          · (repeat' (first | (with_reducible assumption) | (with_reducible apply Ints2.set0) | (with_reducible apply Ints2.set1) | (with_reducible refine Ints2.other ?_ ?_ _) | (with_reducible refine Ints2.alloc ?_ _) | (with_reducible refine Ints2.drewN ?_ _) | (with_reducible refine Ints2.drew ?_) | (with_reducible exact Ints2.new _ _ _ _) | go_size))
          · (repeat' (first | (with_reducible exact Below.refl _ _) | (with_reducible assumption) | (with_reducible refine Below.trans ?_ (Below.mono (by with_reducible assumption) ?_)) | (with_reducible refine Below.alloc ?_ ?_ _) | (with_reducible refine Below.setCell ?_ ?_ _) | (with_reducible refine below_drewN ?_ _) | (with_reducible refine Below.drew ?_) | go_size))
        case measure => simp [intOf]; omega
      · have hz0 : m = 0 ∧ cc = 0 ∧ bd = 0 ∧ D = 0 := by have := HV.out; omega
        obtain ⟨rfl, rfl, rfl, rfl⟩ := hz0
        go_wp2_with fail
        refine (hlc_send_behind1 _ 0 0 0 0 _ KI HM.out p1 (by omega) p2).mono ?_; rintro e w2 ⟨rfl, hb2⟩
        have K2 := (KI.below hb2 KI.lt).alloc (.cells #[.int .i64 0, .int .i64 0] 32)
        have j2 := (JI.below hb2 JI.lt).alloc (.cells #[.int .i64 0, .int .i64 0] 32)
        have S2 := Ints2.new w2 0 0 32
        have HB2 : Below w.heap.size w w2 := HB.trans (hb2.mono (by omega))
        have HB2' : Below w.heap.size w (w2.alloc (.cells #[.int .i64 0, .int .i64 0] 32)) := HB2.alloc HB2.size _
        have g2 := HB2.size
        have z2 := hb2.size
        have g3 : w.heap.size + 1 < w2.heap.size := by omega
        clear hb2 x0
        go_wp2_with fail
        refine (hlc_last _ 0 0 0 _ K2).mono ?_; rintro e w3 ⟨rfl, hb3⟩
        have K3 := K2.below hb3 K2.lt
        have j3 := j2.below hb3 j2.lt
        have S3 := S2.below hb3 S2.lt
        have HB3 : Below w.heap.size w w3 := HB2'.trans (hb3.mono HB2'.size)
        clear hb3 K2 j2 S2 HB2'
        have rf := run_milli 0 0
        go_wp2_with fail
        clear rf
        refine (hlc_raise_ok _ 0 0 0 1000 _ K3 (by omega) (isMilli_of (by omega) (by omega))).mono ?_; rintro e w4 ⟨rfl, ho4, k4⟩
        have j4 := j3.only ho4 (by omega)
        have S4 := S3.only ho4 (by omega)
        have HB4 : Below w.heap.size w w4 := HB3.trans (ho4.below (Nat.le_refl _) HB3.size)
        clear ho4 K3 j3 S3
        go_wp2_with fail
        refine (hlc_send_ok1 _ 0 0 1000 0 _ k4 HM.out p1 (by omega) (by omega)).mono ?_; rintro e w5 ⟨rfl, ho5, k5'⟩
        have k5 : Ints3 w5 w.heap.size 0 1 1000 := k5'
        clear k5'
        have j5 := j4.only ho5 (by omega)
        have S5 := S4.only ho5 (by omega)
        have HB5 : Below w.heap.size w w5 := HB4.trans (ho5.below (Nat.le_refl _) HB4.size)
        clear ho5 j4 S4
        have l2 := j5.lt
        have f0 := j5.f0
        have f1 := j5.f1
        have y0 := j5.c0
        have y1 := j5.c1
        have h0 := S5.f0
        have h1 := S5.f1
        have v0 := S5.c0
        have v1 := S5.c1
        have n1 : w2.heap.size ≠ w.heap.size + 1 := by omega
        have n2 : w.heap.size + 1 ≠ w2.heap.size := by omega
        have n3 : w.heap.size ≠ w2.heap.size := by omega
        set_option maxRecDepth 5000 in go_wp2
        go_roundw
        case rel =>
          refine ⟨k + 1, 0, 1, 1000, by omega, by go_num, .inl (by omega), by omega, by omega, by omega, by omega, by omega, by omega, ?_, ?_, ?_⟩
          · (repeat' (first | (with_reducible assumption) | (with_reducible apply Ints3.set0) | (with_reducible apply Ints3.set1) | (with_reducible apply Ints3.set2) | (with_reducible refine Ints3.other ?_ ?_ _) | (with_reducible refine Ints3.alloc ?_ _) | (with_reducible refine Ints3.drewN ?_ _) | (with_reducible refine Ints3.drew ?_) | (with_reducible exact Ints3.new _ _ _ _ _) | go_size))
          · exact (((j5.other n1 _).other n1 _).set0 _).set1 _
          · (repeat' (first | (with_reducible exact Below.refl _ _) | (with_reducible assumption) | (with_reducible refine Below.trans ?_ (Below.mono (by with_reducible assumption) ?_)) | (with_reducible refine Below.alloc ?_ ?_ _) | (with_reducible refine Below.setCell ?_ ?_ _) | (with_reducible refine below_drewN ?_ _) | (with_reducible refine Below.drew ?_) | go_size))
        case measure => simp [intOf]; omega
      · have p3 : ¬ D < m := by omega
        go_wp2_with fail
        refine (hlc_send_behind2 _ m cc bd D _ KI HM.out p1 p2).mono ?_; rintro e w2 ⟨rfl, hb2⟩
        have K2 := (KI.below hb2 KI.lt).alloc (.cells #[.int .i64 0, .int .i64 0] 32)
        have j2 := (JI.below hb2 JI.lt).alloc (.cells #[.int .i64 0, .int .i64 0] 32)
        have S2 := Ints2.new w2 0 0 32
        have HB2 : Below w.heap.size w w2 := HB.trans (hb2.mono (by omega))
        have HB2' : Below w.heap.size w (w2.alloc (.cells #[.int .i64 0, .int .i64 0] 32)) := HB2.alloc HB2.size _
        have g2 := HB2.size
        have z2 := hb2.size
        have g3 : w.heap.size + 1 < w2.heap.size := by omega
        clear hb2 x0
        go_wp2_with fail
        refine (hlc_last _ m cc bd _ K2).mono ?_; rintro e w3 ⟨rfl, hb3⟩
        have K3 := K2.below hb3 K2.lt
        have j3 := j2.below hb3 j2.lt
        have S3 := S2.below hb3 S2.lt
        have HB3 : Below w.heap.size w w3 := HB2'.trans (hb3.mono HB2'.size)
        clear hb3 K2 j2 S2 HB2'
        have rf := run_milli m cc
        go_wp2_with fail
        clear rf
        refine (hlc_raise_ok _ m cc bd (D + 1000) _ K3 (by omega) (isMilli_of (by omega) (by omega))).mono ?_; rintro e w4 ⟨rfl, ho4, k4⟩
        have j4 := j3.only ho4 (by omega)
        have S4 := S3.only ho4 (by omega)
        have HB4 : Below w.heap.size w w4 := HB3.trans (ho4.below (Nat.le_refl _) HB3.size)
        clear ho4 K3 j3 S3
        go_wp2_with fail
        refine (hlc_send_ok2 _ m cc (D + 1000) D _ k4 HM.out p1 (by omega)).mono ?_; rintro e w5 ⟨rfl, ho5, k5⟩
        have j5 := j4.only ho5 (by omega)
        have S5 := S4.only ho5 (by omega)
        have HB5 : Below w.heap.size w w5 := HB4.trans (ho5.below (Nat.le_refl _) HB4.size)
        clear ho5 j4 S4
        have l2 := j5.lt
        have f0 := j5.f0
        have f1 := j5.f1
        have y0 := j5.c0
        have y1 := j5.c1
        have h0 := S5.f0
        have h1 := S5.f1
        have v0 := S5.c0
        have v1 := S5.c1
        have n1 : w2.heap.size ≠ w.heap.size + 1 := by omega
        have n2 : w.heap.size + 1 ≠ w2.heap.size := by omega
        have n3 : w.heap.size ≠ w2.heap.size := by omega
        set_option maxRecDepth 5000 in go_wp2
        go_roundw
        case rel =>
          refine ⟨k + 1, D, 0, D + 1000, by omega, by go_num, .inl (by omega), by omega, by omega, by omega, by omega, by omega, by omega, ?_, ?_, ?_⟩
          · (repeat' (first | (with_reducible assumption) | (with_reducible apply Ints3.set0) | (with_reducible apply Ints3.set1) | (with_reducible apply Ints3.set2) | (with_reducible refine Ints3.other ?_ ?_ _) | (with_reducible refine Ints3.alloc ?_ _) | (with_reducible refine Ints3.drewN ?_ _) | (with_reducible refine Ints3.drew ?_) | (with_reducible exact Ints3.new _ _ _ _ _) | go_size))
          · exact (((j5.other n1 _).other n1 _).set0 _).set1 _
          · (repeat' (first | (with_reducible exact Below.refl _ _) | (with_reducible assumption) | (with_reducible refine Below.trans ?_ (Below.mono (by with_reducible assumption) ?_)) | (with_reducible refine Below.alloc ?_ ?_ _) | (with_reducible refine Below.setCell ?_ ?_ _) | (with_reducible refine below_drewN ?_ _) | (with_reducible refine Below.drew ?_) | go_size))
        case measure => simp [intOf]; omega
    · obtain rfl : k = n := by omega
      have HM := Lib.hid (isMilli_of (n := bd) b0 (by omega))
      have nL : w.heap.size + 1 ≠ wr.heap.size := by omega
      have k0 := Ints3.new wr bd 0 bd 73
      have j0 := JI.alloc (.cells #[.int .i64 bd, .int .i64 0, .int .i64 bd] 73)
      go_wp2_with fail
      refine (hlc_bound _ m cc bd _ KI).mono ?_; rintro e w' ⟨rfl, rfl⟩
      go_wp2_with fail
      refine (hlc_new_ok bd _ HM.out).mono ?_; rintro e w' ⟨rfl, rfl⟩
      go_wp2_with fail
      refine (hlc_raise_ok _ bd 0 bd 35184372088832 _ k0 (by omega) (by decide)).mono ?_; rintro e w1 ⟨rfl, ho1, k1'⟩
      have J1 := Lib.hid (j0.only ho1 (by omega))
      have K1 := Lib.hid k1'
      have HB1 : Below w.heap.size w w1 := (HB.alloc HB.size _).trans (ho1.below (by omega) (by simp; omega))
      clear ho1 k1' k0 j0 KI JI
      go_wp2_with fail
      go_loopw [14] (fun i wq => ∃ (k : Nat) (p q md cd : Int), k ≤ n2 ∧ i = .int .i64 k ∧ (p < md ∨ (p = md ∧ q ≤ cd)) ∧ 0 ≤ md ∧ md ≤ 2199023255552 ∧ 0 ≤ cd ∧ cd ≤ k ∧ Ints3 wq wr.heap.size md cd 35184372088832 ∧ Ints2 wq (w.heap.size + 1) p q ∧ Below w.heap.size w wq) (fun i _ => n2 - (intOf i).toNat)
      case atStart => exact ⟨0, m, cc, bd, 0, Nat.zero_le _, rfl, by have := HV.out; omega, by omega, by omega, by omega, by omega, K1.out, J1.out, HB1⟩
      case round =>
        obtain ⟨k, p, q, md, cd, kk, rfl, tl, d0, d1, e0, e1, KI2, JI2, HBr⟩ := hrel
        have TL := Lib.hid tl
        clear K1 J1 HB1 tl HV
        have lq := KI2.lt
        by_cases hlt : k < n2
        · have hk : (k : Int) < (n2 : Int) := by omega
          obtain ⟨B, O, rfl, hB, hcells⟩ := HZ2.out (by omega)
          have lB := Nat.lt_of_lt_of_le hB HBr.size
          have x0 := (HBr.cell (p := ⟨B, O + k, none⟩) hB).trans (hcells k hlt).1
          clear hcells
          have lb := low40_bd (z2 k)
          have hL : bits .and .i64 (z2 k) 1099511627775 = low40 (z2 k) := rfl
          generalize low40 (z2 k) = D at *
          have HM2 := Lib.hid (isMilli_of (n := D) lb.1 (by omega))
          rcases (show D ≤ md ∨ md < D from by omega) with p1 | p1
          · have HC : Hid (p < md ∨ (p = md ∧ q < cd + 1)) := Lib.hid (by have := TL.out; omega)
            go_wp2_with fail
            refine (hlc_send_ok1 _ md cd 35184372088832 D _ KI2 HM2.out p1 (by omega) (by omega)).mono ?_; rintro e w2 ⟨rfl, ho2, k2⟩
            have j2 : Ints2 w2 (w.heap.size + 1) p q := JI2.only ho2 (by omega)
            have HB2 : Below w.heap.size w w2 := HBr.trans (ho2.below (by omega) (by omega))
            have z2 := ho2.size
            have l2 := j2.lt
            have y0 := j2.c0
            have y1 := j2.c1
            clear ho2 x0
            go_wp2_with fail
            clear y0 y1
            have S2 := (Ints2.new w2 (md) (cd + 1) 32)
            have k2' := k2.alloc (.cells #[.int .i64 (md), .int .i64 (cd + 1)] 32)
            have j2' := j2.alloc (.cells #[.int .i64 (md), .int .i64 (cd + 1)] 32)
            refine (ref10_compare_eq (cmp2_up (m := md) (c := cd + 1) (p := p) (q := q) HC.out) _).mono ?_; rintro e w3 ⟨rfl, hb3⟩
            have K3 := k2'.below hb3 k2'.lt
            have J3 := j2'.below hb3 j2'.lt
            have S3 := S2.below hb3 S2.lt
            have HB3 : Below w.heap.size w w3 := (HB2.alloc HB2.size _).trans (hb3.mono (by have := HB2.size; simp; omega))
            have y0 := S3.c0
            have y1 := S3.c1
            have f0 := J3.f0
            have f1 := J3.f1
            have v0 := J3.c0
            have v1 := J3.c1
            have l3 := J3.lt
            clear hb3 k2 k2' j2 j2' S2
            set_option maxRecDepth 5000 in go_wp2
            go_roundw
            case rel =>
              refine ⟨k + 1, md, cd + 1, md, cd + 1, by omega, by go_num, .inr ⟨rfl, by omega⟩, by omega, by omega, by omega, by omega, ?_, (J3.set0 _).set1 _, ?_⟩
              · exact (K3.other nL _).other nL _
              · (repeat' (first | (with_reducible exact Below.refl _ _) | (with_reducible assumption) | (with_reducible refine Below.trans ?_ (Below.mono (by with_reducible assumption) ?_)) | (with_reducible refine Below.alloc ?_ ?_ _) | (with_reducible refine Below.setCell ?_ ?_ _) | (with_reducible refine below_drewN ?_ _) | (with_reducible refine Below.drew ?_) | go_size))
            case measure => simp [intOf]; omega
          · have HC : Hid (p < D ∨ (p = D ∧ q < 0)) := Lib.hid (by have := TL.out; omega)
            go_wp2_with fail
            refine (hlc_send_ok2 _ md cd 35184372088832 D _ KI2 HM2.out p1 (by omega)).mono ?_; rintro e w2 ⟨rfl, ho2, k2⟩
            have j2 : Ints2 w2 (w.heap.size + 1) p q := JI2.only ho2 (by omega)
            have HB2 : Below w.heap.size w w2 := HBr.trans (ho2.below (by omega) (by omega))
            have z2 := ho2.size
            have l2 := j2.lt
            have y0 := j2.c0
            have y1 := j2.c1
            clear ho2 x0
            go_wp2_with fail
            clear y0 y1
            have S2 := (Ints2.new w2 (D) (0) 32)
            have k2' := k2.alloc (.cells #[.int .i64 (D), .int .i64 (0)] 32)
            have j2' := j2.alloc (.cells #[.int .i64 (D), .int .i64 (0)] 32)
            refine (ref10_compare_eq (cmp2_up (m := D) (c := 0) (p := p) (q := q) HC.out) _).mono ?_; rintro e w3 ⟨rfl, hb3⟩
            have K3 := k2'.below hb3 k2'.lt
            have J3 := j2'.below hb3 j2'.lt
            have S3 := S2.below hb3 S2.lt
            have HB3 : Below w.heap.size w w3 := (HB2.alloc HB2.size _).trans (hb3.mono (by have := HB2.size; simp; omega))
            have y0 := S3.c0
            have y1 := S3.c1
            have f0 := J3.f0
            have f1 := J3.f1
            have v0 := J3.c0
            have v1 := J3.c1
            have l3 := J3.lt
            clear hb3 k2 k2' j2 j2' S2
            set_option maxRecDepth 5000 in go_wp2
            go_roundw
            case rel =>
              refine ⟨k + 1, D, 0, D, 0, by omega, by go_num, .inr ⟨rfl, by omega⟩, by omega, by omega, by omega, by omega, ?_, (J3.set0 _).set1 _, ?_⟩
              · exact (K3.other nL _).other nL _
              · (repeat' (first | (with_reducible exact Below.refl _ _) | (with_reducible assumption) | (with_reducible refine Below.trans ?_ (Below.mono (by with_reducible assumption) ?_)) | (with_reducible refine Below.alloc ?_ ?_ _) | (with_reducible refine Below.setCell ?_ ?_ _) | (with_reducible refine below_drewN ?_ _) | (with_reducible refine Below.drew ?_) | go_size))
            case measure => simp [intOf]; omega
        · obtain rfl : k = n2 := by omega
          have z2 := HBr.size
          clear KI2 JI2
          go_wp2_with (go_at_call 16; refine (known10 _).mono ?_; rintro e w5 ⟨rfl, hb5⟩; obtain ⟨hc5, hf5⟩ := bcell hb5; have hz5 := hb5.size; (try simp only [World.size_alloc, World.size_setCell, World.heap_drewN] at hb5 hc5 hf5 hz5); (try have ha05 : w.heap.size < w5.heap.size := by omega); (try have ha15 : w.heap.size + 1 < w5.heap.size := by omega); (try have ha25 : w.heap.size + 2 < w5.heap.size := by omega); (try have hal5 : w.heap.size ≤ w5.heap.size := by omega); (try have ham5 : w.heap.size < w5.heap.size + 2 := by omega))
          go_ret
          go_light
          exact ⟨rfl, by (repeat' (first | (with_reducible exact Below.refl _ _) | (with_reducible assumption) | (with_reducible refine Below.trans ?_ (Below.mono (by with_reducible assumption) ?_)) | (with_reducible refine Below.alloc ?_ ?_ _) | (with_reducible refine Below.setCell ?_ ?_ _) | (with_reducible refine below_drewN ?_ _) | (with_reducible refine Below.drew ?_) | go_size))⟩
end Go.Proofs.Ytmbopdabbegbiaa
