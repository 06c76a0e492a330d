/- hlc.Max of any list. -/
import Derived.Test.YtmbopdabbegbiaaHlcHear
import Derived.Test.YtmbopdabbegbiaaInts2
set_option linter.unusedSimpArgs false
set_option linter.unusedVariables false
namespace Go.Proofs.Ytmbopdabbegbiaa
open Go.RowKit

/-- The greatest of the first k stamps. -/
def mxS (p q : Nat → Int) : Nat → Int × Int
  | 0 => (0, 0)
  | k + 1 => if k = 0 then (p 0, q 0) else (mx1 (mxS p q k).1 (mxS p q k).2 (p k) (q k), mx2 (mxS p q k).1 (mxS p q k).2 (p k) (q k))
theorem mxS_step (p q : Nat → Int) (k : Nat) (h : k ≠ 0) : mxS p q (k + 1) = (mx1 (mxS p q k).1 (mxS p q k).2 (p k) (q k), mx2 (mxS p q k).1 (mxS p q k).2 (p k) (q k)) := by
  show (if k = 0 then _ else _) = _
  rw [if_neg h]
set_option maxHeartbeats 2000000 in
theorem hlc_max_any (p q : Nat → Int) (A : Option Addr) (n c : Nat) (w : World) (hn : n ≤ 100000) (hz : PairsAt w A n p q) :
    Calls Try.prog 32 #[.slice A n c] w fun e w' => e = .returned (.agg #[.int .i64 (mxS p q n).1, .int .i64 (mxS p q n).2]) ∧ Below w.heap.size w w' := by
  have HZ := Lib.hid hz
  clear hz
  have k0 := Ints2.new w 0 0 32
  have k0' := k0.alloc (.cells #[.int .i64 0, .int .i64 0] 32)
  have k1 := Ints2.new1 w (.cells #[.int .i64 0, .int .i64 0] 32) 0 0 32
  have K0 := Lib.hid k0'
  have K1 := Lib.hid k1
  have HB0 : Below w.heap.size w ((w.alloc (.cells #[.int .i64 0, .int .i64 0] 32)).alloc (.cells #[.int .i64 0, .int .i64 0] 32)) := by (repeat' (first | (with_reducible exact Below.refl _ _) | (with_reducible assumption) | (with_reducible refine Below.trans ?_ (Below.mono (by with_reducible assumption) ?_)) | (with_reducible refine Below.alloc ?_ ?_ _) | (with_reducible refine Below.setCell ?_ ?_ _) | (with_reducible refine below_drewN ?_ _) | (with_reducible refine Below.drew ?_) | go_size))
  clear k0 k0' k1
  go_enter Try.func32, Try.ntmps32
  go_wp2
  go_loopw [8] (fun i wr => ∃ k : Nat, k ≤ n ∧ i = .int .i64 k ∧ Ints2 wr w.heap.size 0 0 ∧ Ints2 wr (w.heap.size + 1) (mxS p q k).1 (mxS p q k).2 ∧ Below w.heap.size w wr) (fun i _ => n - (intOf i).toNat)
  case atStart => exact ⟨0, Nat.zero_le _, rfl, K0.out, K1.out, HB0⟩
  case round =>
    obtain ⟨k, hk, rfl, I0, I1, HB⟩ := hrel
    clear K0 K1 HB0
    by_cases hlt : k < n
    · obtain ⟨B, O, rfl, hB, hcells⟩ := HZ.out (by omega)
      have hc0 : wr.cell? ⟨B, O + k * 2, none⟩ = some (.int .i64 (p k)) := (HB.cell (p := ⟨B, O + k * 2, none⟩) hB).trans (hcells k hlt).1
      have hc1 : wr.cell? ⟨B, O + k * 2 + 1, none⟩ = some (.int .i64 (q k)) := (HB.cell (p := ⟨B, O + k * 2 + 1, none⟩) hB).trans (hcells k hlt).2
      clear hcells
      have lr := I1.lt
      have l0 : w.heap.size < wr.heap.size := by omega
      have lB : B < wr.heap.size := by omega
      have I1' := I1
      obtain ⟨x0, x1, g0, g1, _⟩ := I1'
      have n0 : w.heap.size ≠ wr.heap.size := by omega
      have n1 : w.heap.size + 1 ≠ wr.heap.size := by omega
      have n2 : wr.heap.size ≠ w.heap.size := by omega
      have n3 : wr.heap.size ≠ w.heap.size + 1 := by omega
      have nB : B ≠ wr.heap.size := by omega
      by_cases h0 : k = 0
      · have d0 : ((k : Int) == 0) = true := by simp [h0]
        have H0 : Hid (mxS p q (k + 1) = (p k, q k)) := Lib.hid (by subst h0; rfl)
        clear h0
        go_wp2
        go_roundw
        case rel =>
          refine ⟨k + 1, by omega, by go_num, ?_, ?_, ?_⟩
          · (repeat' (first | (with_reducible assumption) | (with_reducible apply Ints2.set0) | (with_reducible apply Ints2.set1) | (with_reducible refine Ints2.other ?_ ?_ _) | (with_reducible refine Ints2.alloc ?_ _) | (with_reducible refine Ints2.drewN ?_ _) | (with_reducible refine Ints2.drew ?_) | (with_reducible exact Ints2.new _ _ _ _) | go_size))
          · rw [H0.out]
            (repeat' (first | (with_reducible assumption) | (with_reducible apply Ints2.set0) | (with_reducible apply Ints2.set1) | (with_reducible refine Ints2.other ?_ ?_ _) | (with_reducible refine Ints2.alloc ?_ _) | (with_reducible refine Ints2.drewN ?_ _) | (with_reducible refine Ints2.drew ?_) | (with_reducible exact Ints2.new _ _ _ _) | go_size))
          · (repeat' (first | (with_reducible exact Below.refl _ _) | (with_reducible assumption) | (with_reducible refine Below.trans ?_ (Below.mono (by with_reducible assumption) ?_)) | (with_reducible refine Below.alloc ?_ ?_ _) | (with_reducible refine Below.setCell ?_ ?_ _) | (with_reducible refine below_drewN ?_ _) | (with_reducible refine Below.drew ?_) | go_size))
        case measure => simp [intOf]; omega
      · have d0 : ((k : Int) == 0) = false := by simp; omega
        have ms := mxS_step p q k h0
        clear h0
        generalize hm : mxS p q k = m at *
        obtain ⟨m1, m2⟩ := m
        cases hg : gt2 m1 m2 (p k) (q k)
        · have hg' : decide (0 < cmp2 (p k) (q k) m1 m2) = false := hg
          have H0 : Hid (mxS p q (k + 1) = (m1, m2)) := Lib.hid (by rw [ms]; simp [mx1, mx2, hg])
          clear ms hm hg
          go_wp2_with (go_at_call 31; refine (hlc_compare _ _ _ _ _).mono ?_; rintro e w1 ⟨rfl, hb1⟩; obtain ⟨hc1, hf1⟩ := bcell hb1; have hz1 := hb1.size; (try simp only [World.size_alloc, World.size_setCell, World.heap_drewN] at hb1 hc1 hf1 hz1); (try have ha01 : w.heap.size < w1.heap.size := by omega); (try have ha11 : w.heap.size + 1 < w1.heap.size := by omega); (try have ha21 : w.heap.size + 2 < w1.heap.size := by omega); (try have hal1 : w.heap.size ≤ w1.heap.size := by omega); (try have ham1 : w.heap.size < w1.heap.size + 2 := by omega); (try have hb01 : wr.heap.size < w1.heap.size := by omega); (try have hb11 : wr.heap.size + 1 < w1.heap.size := by omega); (try have hb21 : wr.heap.size + 2 < w1.heap.size := by omega); (try have hbl1 : wr.heap.size ≤ w1.heap.size := by omega); (try have hbm1 : wr.heap.size < w1.heap.size + 2 := by omega))
          go_roundw
          case rel =>
            refine ⟨k + 1, by omega, by go_num, ?_, ?_, ?_⟩
            · exact (I0.alloc _).below hb1 (by first | omega | (simp; omega))
            · rw [H0.out]
              exact (I1.alloc _).below hb1 (by first | omega | (simp; omega))
            · (repeat' (first | (with_reducible exact Below.refl _ _) | (with_reducible assumption) | (with_reducible refine Below.trans ?_ (Below.mono (by with_reducible assumption) ?_)) | (with_reducible refine Below.alloc ?_ ?_ _) | (with_reducible refine Below.setCell ?_ ?_ _) | (with_reducible refine below_drewN ?_ _) | (with_reducible refine Below.drew ?_) | go_size))
          case measure => simp [intOf]; omega
        · have hg' : decide (0 < cmp2 (p k) (q k) m1 m2) = true := hg
          have H0 : Hid (mxS p q (k + 1) = (p k, q k)) := Lib.hid (by rw [ms]; simp [mx1, mx2, hg])
          clear ms hm hg
          go_wp2_with (go_at_call 31; refine (hlc_compare _ _ _ _ _).mono ?_; rintro e w1 ⟨rfl, hb1⟩; obtain ⟨hc1, hf1⟩ := bcell hb1; have hz1 := hb1.size; (try simp only [World.size_alloc, World.size_setCell, World.heap_drewN] at hb1 hc1 hf1 hz1); (try have ha01 : w.heap.size < w1.heap.size := by omega); (try have ha11 : w.heap.size + 1 < w1.heap.size := by omega); (try have ha21 : w.heap.size + 2 < w1.heap.size := by omega); (try have hal1 : w.heap.size ≤ w1.heap.size := by omega); (try have ham1 : w.heap.size < w1.heap.size + 2 := by omega); (try have hb01 : wr.heap.size < w1.heap.size := by omega); (try have hb11 : wr.heap.size + 1 < w1.heap.size := by omega); (try have hb21 : wr.heap.size + 2 < w1.heap.size := by omega); (try have hbl1 : wr.heap.size ≤ w1.heap.size := by omega); (try have hbm1 : wr.heap.size < w1.heap.size + 2 := by omega))
          have J0 : Ints2 w1 w.heap.size 0 0 := (I0.alloc _).below hb1 (by first | omega | (simp; omega))
          have J1 : Ints2 w1 (w.heap.size + 1) m1 m2 := (I1.alloc _).below hb1 (by first | omega | (simp; omega))
          go_roundw
          case rel =>
            refine ⟨k + 1, by omega, by go_num, ?_, ?_, ?_⟩
            · (repeat' (first | (with_reducible assumption) | (with_reducible apply Ints2.set0) | (with_reducible apply Ints2.set1) | (with_reducible refine Ints2.other ?_ ?_ _) | (with_reducible refine Ints2.alloc ?_ _) | (with_reducible refine Ints2.drewN ?_ _) | (with_reducible refine Ints2.drew ?_) | (with_reducible exact Ints2.new _ _ _ _) | go_size))
            · rw [H0.out]
              (repeat' (first | (with_reducible assumption) | (with_reducible apply Ints2.set0) | (with_reducible apply Ints2.set1) | (with_reducible refine Ints2.other ?_ ?_ _) | (with_reducible refine Ints2.alloc ?_ _) | (with_reducible refine Ints2.drewN ?_ _) | (with_reducible refine Ints2.drew ?_) | (with_reducible exact Ints2.new _ _ _ _) | go_size))
            · (repeat' (first | (with_reducible exact Below.refl _ _) | (with_reducible assumption) | (with_reducible refine Below.trans ?_ (Below.mono (by with_reducible assumption) ?_)) | (with_reducible refine Below.alloc ?_ ?_ _) | (with_reducible refine Below.setCell ?_ ?_ _) | (with_reducible refine below_drewN ?_ _) | (with_reducible refine Below.drew ?_) | go_size))
          case measure => simp [intOf]; omega
    · obtain rfl : k = n := by omega
      have R0 := (I0.set0 (mxS p q k).1).c0
      have R1 := ((I0.set0 (mxS p q k).1).set1 (mxS p q k).2).c1
      obtain ⟨x0, x1, g0, g1, lt⟩ := I1
      obtain ⟨y0, y1, f0, f1, lt'⟩ := I0
      go_wp2
      refine bodyPost_ret (v := .agg #[.int .i64 (mxS p q k).1, .int .i64 (mxS p q k).2]) (by simp [results, Try.results32, go_sem, R0, R1]) rfl ⟨rfl, ?_⟩
      go_light
      (repeat' (first | (with_reducible exact Below.refl _ _) | (with_reducible assumption) | (with_reducible refine Below.trans ?_ (Below.mono (by with_reducible assumption) ?_)) | (with_reducible refine Below.alloc ?_ ?_ _) | (with_reducible refine Below.setCell ?_ ?_ _) | (with_reducible refine below_drewN ?_ _) | (with_reducible refine Below.drew ?_) | go_size))
end Go.Proofs.Ytmbopdabbegbiaa
