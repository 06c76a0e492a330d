/- The reference's Max of any list. -/
import Derived.Test.YtmbopdabbegbiaaS10A
import Derived.Test.YtmbopdabbegbiaaHlcMax
set_option linter.unusedSimpArgs false
set_option linter.unusedVariables false
namespace Go.Proofs.Ytmbopdabbegbiaa
open Go.RowKit

set_option maxHeartbeats 2000000 in
theorem ref10_max_any (p q : Nat → Int) (A : Option Addr) (n c : Nat) (w : World) (hn : n ≤ 100000) (hz : PairsAt w A n p q) :
    Calls Try.prog 25 #[.slice A n c] w fun e w' => e = .returned (.agg #[.int .i64 (mxS p q n).1, .int .i64 (mxS p q n).2]) ∧ Below w.heap.size w w' := by
  have HZ := Lib.hid hz
  clear hz
  have k0 := Ints2.new w 0 0 32
  have k0' := k0.alloc (.cells #[.int .i64 0, .int .i64 0] 32)
  have k1 := Ints2.new1 w (.cells #[.int .i64 0, .int .i64 0] 32) 0 0 32
  have K0 := Lib.hid k0'
  have K1 := Lib.hid k1
  have HB0 : Below w.heap.size w ((w.alloc (.cells #[.int .i64 0, .int .i64 0] 32)).alloc (.cells #[.int .i64 0, .int .i64 0] 32)) := by (repeat' (first | (with_reducible exact Below.refl _ _) | (with_reducible assumption) | (with_reducible refine Below.trans ?_ (Below.mono (by with_reducible assumption) ?_)) | (with_reducible refine Below.alloc ?_ ?_ _) | (with_reducible refine Below.setCell ?_ ?_ _) | (with_reducible refine below_drewN ?_ _) | (with_reducible refine Below.drew ?_) | go_size))
  clear k0 k0' k1
  go_enter Try.func25, Try.ntmps25
  go_wp2
  go_loopw [4] (fun i wr => ∃ k : Nat, k ≤ n ∧ i = .int .i64 k ∧ Ints2 wr w.heap.size 0 0 ∧ Ints2 wr (w.heap.size + 1) (mxS p q k).1 (mxS p q k).2 ∧ Below w.heap.size w wr) (fun i _ => n - (intOf i).toNat)
  case atStart => exact ⟨0, Nat.zero_le _, rfl, K0.out, K1.out, HB0⟩
  case round =>
    obtain ⟨k, hk, rfl, I0, I1, HB⟩ := hrel
    clear K0 K1 HB0
    by_cases hlt : k < n
    · obtain ⟨B, O, rfl, hB, hcells⟩ := HZ.out (by omega)
      have x2 : wr.cell? ⟨B, O + k * 2, none⟩ = some (.int .i64 (p k)) := (HB.cell (p := ⟨B, O + k * 2, none⟩) hB).trans (hcells k hlt).1
      have x3 : wr.cell? ⟨B, O + k * 2 + 1, none⟩ = some (.int .i64 (q k)) := (HB.cell (p := ⟨B, O + k * 2 + 1, none⟩) hB).trans (hcells k hlt).2
      clear hcells
      have lr := I1.lt
      have l0 : w.heap.size < wr.heap.size := by omega
      have lB : B < wr.heap.size := by omega
      have I1' := I1
      obtain ⟨x0, x1, g0, g1, _⟩ := I1'
      have lk : (k : Int) < (n : Int) := by omega
      by_cases h0 : k = 0
      · have d0 : ((k : Int) == 0) = true := by simp [h0]
        have H0 : Hid (mxS p q (k + 1) = (p k, q k)) := Lib.hid (by subst h0; rfl)
        clear h0
        go_wp2
        go_quiet (fail)
        go_wp2
        go_roundw
        case rel =>
          refine ⟨k + 1, by omega, by go_num, ?_, ?_, ?_⟩
          · exact (((I0.drewN _).other (by simp) _).other (by simp) _)
          · rw [H0.out]
            exact (((I1.drewN _).set0 _).set1 _)
          · (repeat' (first | (with_reducible exact Below.refl _ _) | (with_reducible assumption) | (with_reducible refine Below.trans ?_ (Below.mono (by with_reducible assumption) ?_)) | (with_reducible refine Below.alloc ?_ ?_ _) | (with_reducible refine Below.setCell ?_ ?_ _) | (with_reducible refine below_drewN ?_ _) | (with_reducible refine Below.drew ?_) | go_size))
        case measure => simp [intOf]; omega
      · have d0 : ((k : Int) == 0) = false := by simp; omega
        have ms := mxS_step p q k h0
        clear h0
        generalize hm : mxS p q k = m at *
        obtain ⟨m1, m2⟩ := m
        cases hg : gt2 m1 m2 (p k) (q k)
        · have hg' : decide (0 < cmp2 (p k) (q k) m1 m2) = false := hg
          have H0 : Hid (mxS p q (k + 1) = (m1, m2)) := Lib.hid (by rw [ms]; simp [mx1, mx2, hg])
          clear ms hm hg
          go_wp2
          go_region_held3 (fun w' => w'.cell? ⟨B, O + k * 2, none⟩ = some (.int .i64 (p k)) ∧ w'.cell? ⟨B, O + k * 2 + 1, none⟩ = some (.int .i64 (q k)) ∧ w'.cell? ⟨w.heap.size + 1, 0, none⟩ = some (.int .i64 m1) ∧ w'.cell? ⟨w.heap.size + 1, 1, none⟩ = some (.int .i64 m2)) (first | (simp [go_sem, x2, x3, x0, x1]; done) | (simp [go_sem, hc5 _ _ lB, hc5 _ _ lr, x2, x3, x0, x1]; done))
            (first | (go_at_call 26; refine (ref10_compare _ _ _ _ _).mono ?_; rintro e w5 ⟨rfl, hb5⟩; obtain ⟨hc5, hf5⟩ := bcell hb5; have hz5 := hb5.size; (try simp only [World.size_alloc, World.size_setCell, World.heap_drewN] at hb5 hc5 hf5 hz5); (try have ha05 : w.heap.size < w5.heap.size := by omega); (try have ha15 : w.heap.size + 1 < w5.heap.size := by omega); (try have ha25 : w.heap.size + 2 < w5.heap.size := by omega); (try have hal5 : w.heap.size ≤ w5.heap.size := by omega); (try have ham5 : w.heap.size < w5.heap.size + 2 := by omega); (try have hb05 : wr.heap.size < w5.heap.size := by omega); (try have hb15 : wr.heap.size + 1 < w5.heap.size := by omega); (try have hb25 : wr.heap.size + 2 < w5.heap.size := by omega); (try have hbl5 : wr.heap.size ≤ w5.heap.size := by omega); (try have hbm5 : wr.heap.size < w5.heap.size + 2 := by omega)))
          have J0 : Ints2 w5 w.heap.size 0 0 := by first | exact I0.below hb5 l0 | exact I0.drew.below hb5 l0
          have J1 : Ints2 w5 (w.heap.size + 1) m1 m2 := by first | exact I1.below hb5 lr | exact I1.drew.below hb5 lr
          have HB5 : Below w.heap.size w w5 := by (repeat' (first | (with_reducible exact Below.refl _ _) | (with_reducible assumption) | (with_reducible refine Below.trans ?_ (Below.mono (by with_reducible assumption) ?_)) | (with_reducible refine Below.alloc ?_ ?_ _) | (with_reducible refine Below.setCell ?_ ?_ _) | (with_reducible refine below_drewN ?_ _) | (with_reducible refine Below.drew ?_) | go_size))
          go_wp2
          go_roundw
          case rel => exact ⟨k + 1, by omega, by go_num, J0, by rw [H0.out]; exact J1, HB5⟩
          case measure => simp [intOf]; omega
        · have hg' : decide (0 < cmp2 (p k) (q k) m1 m2) = true := hg
          have H0 : Hid (mxS p q (k + 1) = (p k, q k)) := Lib.hid (by rw [ms]; simp [mx1, mx2, hg])
          clear ms hm hg
          go_wp2
          go_region_held3 (fun w' => w'.cell? ⟨B, O + k * 2, none⟩ = some (.int .i64 (p k)) ∧ w'.cell? ⟨B, O + k * 2 + 1, none⟩ = some (.int .i64 (q k)) ∧ w'.cell? ⟨w.heap.size + 1, 0, none⟩ = some (.int .i64 m1) ∧ w'.cell? ⟨w.heap.size + 1, 1, none⟩ = some (.int .i64 m2)) (first | (simp [go_sem, x2, x3, x0, x1]; done) | (simp [go_sem, hc5 _ _ lB, hc5 _ _ lr, x2, x3, x0, x1]; done))
            (first | (go_at_call 26; refine (ref10_compare _ _ _ _ _).mono ?_; rintro e w5 ⟨rfl, hb5⟩; obtain ⟨hc5, hf5⟩ := bcell hb5; have hz5 := hb5.size; (try simp only [World.size_alloc, World.size_setCell, World.heap_drewN] at hb5 hc5 hf5 hz5); (try have ha05 : w.heap.size < w5.heap.size := by omega); (try have ha15 : w.heap.size + 1 < w5.heap.size := by omega); (try have ha25 : w.heap.size + 2 < w5.heap.size := by omega); (try have hal5 : w.heap.size ≤ w5.heap.size := by omega); (try have ham5 : w.heap.size < w5.heap.size + 2 := by omega); (try have hb05 : wr.heap.size < w5.heap.size := by omega); (try have hb15 : wr.heap.size + 1 < w5.heap.size := by omega); (try have hb25 : wr.heap.size + 2 < w5.heap.size := by omega); (try have hbl5 : wr.heap.size ≤ w5.heap.size := by omega); (try have hbm5 : wr.heap.size < w5.heap.size + 2 := by omega)))
          have J0 : Ints2 w5 w.heap.size 0 0 := by first | exact I0.below hb5 l0 | exact I0.drew.below hb5 l0
          have J1 : Ints2 w5 (w.heap.size + 1) m1 m2 := by first | exact I1.below hb5 lr | exact I1.drew.below hb5 lr
          have HB5 : Below w.heap.size w w5 := by (repeat' (first | (with_reducible exact Below.refl _ _) | (with_reducible assumption) | (with_reducible refine Below.trans ?_ (Below.mono (by with_reducible assumption) ?_)) | (with_reducible refine Below.alloc ?_ ?_ _) | (with_reducible refine Below.setCell ?_ ?_ _) | (with_reducible refine below_drewN ?_ _) | (with_reducible refine Below.drew ?_) | go_size))
          have l5 := J1.lt
          have y2 : w5.cell? ⟨B, O + k * 2, none⟩ = some (.int .i64 (p k)) := (hc5 _ _ lB).trans x2
          have y3 : w5.cell? ⟨B, O + k * 2 + 1, none⟩ = some (.int .i64 (q k)) := (hc5 _ _ lB).trans x3
          have f0 := J1.f0
          have f1 := J1.f1
          have z0 := J1.c0
          have z1 := J1.c1
          clear hc5 hf5
          go_wp2
          go_roundw
          case rel =>
            refine ⟨k + 1, by omega, by go_num, ?_, ?_, ?_⟩
            · exact ((J0.other (by simp) _).other (by simp) _)
            · rw [H0.out]
              exact ((J1.set0 _).set1 _)
            · (repeat' (first | (with_reducible exact Below.refl _ _) | (with_reducible assumption) | (with_reducible refine Below.trans ?_ (Below.mono (by with_reducible assumption) ?_)) | (with_reducible refine Below.alloc ?_ ?_ _) | (with_reducible refine Below.setCell ?_ ?_ _) | (with_reducible refine below_drewN ?_ _) | (with_reducible refine Below.drew ?_) | go_size))
          case measure => simp [intOf]; omega
    · obtain rfl : k = n := by omega
      have R0 := (I0.set0 (mxS p q k).1).c0
      have R1 := ((I0.set0 (mxS p q k).1).set1 (mxS p q k).2).c1
      obtain ⟨x0, x1, g0, g1, lt⟩ := I1
      obtain ⟨y0, y1, f0, f1, lt'⟩ := I0
      go_wp2
      refine bodyPost_ret (v := .agg #[.int .i64 (mxS p q k).1, .int .i64 (mxS p q k).2]) (by simp [results, Try.results25, go_sem, R0, R1]) rfl ⟨rfl, ?_⟩
      go_light
      (repeat' (first | (with_reducible exact Below.refl _ _) | (with_reducible assumption) | (with_reducible refine Below.trans ?_ (Below.mono (by with_reducible assumption) ?_)) | (with_reducible refine Below.alloc ?_ ?_ _) | (with_reducible refine Below.setCell ?_ ?_ _) | (with_reducible refine below_drewN ?_ _) | (with_reducible refine Below.drew ?_) | go_size))
end Go.Proofs.Ytmbopdabbegbiaa
