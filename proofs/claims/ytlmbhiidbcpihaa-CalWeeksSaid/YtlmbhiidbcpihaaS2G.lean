/- The law of stage 2, walked: CalWeeks. -/
import Derived.Test.YtlmbhiidbcpihaaS2A
set_option linter.unusedSimpArgs false
set_option linter.unusedVariables false
namespace Go.Proofs.Ytlmbhiidbcpihaa
open Go.RowKit

set_option maxHeartbeats 1000000 in
theorem calWeeks_out (a n : Int) (w : World) (h : n < 0 ∨ (0 ≤ n ∧ 400 < n) ∨ (0 ≤ n ∧ n ≤ 400 ∧ a < -700000) ∨ (0 ≤ n ∧ n ≤ 400 ∧ -700000 ≤ a ∧ 2900000 < a)) :
    Calls Try.prog 8 #[.int .i64 a, .int .i64 n] w fun e w' => e = .returned (.bool true) ∧ Below w.heap.size w w' := by
  rcases h with h | ⟨h1, h⟩ | ⟨h1, h2, h⟩ | ⟨h1, h2, h3, h⟩
  all_goals
    go_enter Try.func8, Try.ntmps8
    go_wp2_with (go_at_call 12; refine (known2 _).mono ?_; rintro e w5 ⟨rfl, hb5⟩; obtain ⟨hc5, hf5⟩ := bcell hb5; have hz5 := hb5.size; (try simp only [World.size_alloc, World.size_setCell, World.heap_drewN] at hb5 hc5 hf5 hz5); (try have ha05 : w.heap.size < w5.heap.size := by omega); (try have ha15 : w.heap.size + 1 < w5.heap.size := by omega); (try have ha25 : w.heap.size + 2 < w5.heap.size := by omega); (try have hal5 : w.heap.size ≤ w5.heap.size := by omega); (try have ham5 : w.heap.size < w5.heap.size + 2 := by omega))
    go_ret
    go_light
    exact ⟨rfl, by (repeat' (first | (with_reducible exact Below.refl _ _) | (with_reducible assumption) | (with_reducible refine Below.trans ?_ (Below.mono (by with_reducible assumption) ?_)) | (with_reducible refine Below.alloc ?_ ?_ _) | (with_reducible refine Below.setCell ?_ ?_ _) | (with_reducible refine below_drewN ?_ _) | (with_reducible refine Below.drew ?_) | go_size))⟩
/-- A date's three cells, in a block of the call's own. -/
def Cells3 (w : World) (b : Nat) (y m d : Int) : Prop := w.cell? ⟨b, 0, none⟩ = some (.int .i64 y) ∧ w.cell? ⟨b, 1, none⟩ = some (.int .i64 m) ∧ w.cell? ⟨b, 2, none⟩ = some (.int .i64 d) ∧
  w.frozen? ⟨b, 0, none⟩ = false ∧ w.frozen? ⟨b, 1, none⟩ = false ∧ w.frozen? ⟨b, 2, none⟩ = false
/-- The date so many days on. -/
def DateAt (w : World) (b : Nat) (n : Int) : Prop := ∃ y m d, Cal.Vld y m d ∧ n = Cal.num y m d ∧ Cells3 w b y m d
set_option maxHeartbeats 4000000 in
theorem calWeeks_in (a n : Int) (w : World) (h1 : 0 ≤ n) (h2 : n ≤ 400) (h3 : -700000 ≤ a) (h4 : a ≤ 2900000) :
    Calls Try.prog 8 #[.int .i64 a, .int .i64 n] w fun e w' => e = .returned (.bool true) ∧ Below w.heap.size w w' := by
  obtain ⟨y, m, d, v, hn⟩ := Cal.date_ex a (by omega) (by omega)
  have V := Lib.hid v
  have HN := Lib.hid hn
  clear v hn
  go_enter Try.func8, Try.ntmps8
  go_wp2_with fail
  refine (cal_date_yes y m d _ _ V.out HN.out.symm).mono ?_; rintro e w1 ⟨rfl, hb1⟩; obtain ⟨hc1, hf1⟩ := bcell hb1; have hz1 := hb1.size; (try simp only [World.size_alloc, World.size_setCell, World.heap_drewN] at hb1 hc1 hf1 hz1); (try have ha01 : w.heap.size < w1.heap.size := by omega); (try have ha11 : w.heap.size + 1 < w1.heap.size := by omega); (try have ha21 : w.heap.size + 2 < w1.heap.size := by omega); (try have hal1 : w.heap.size ≤ w1.heap.size := by omega); (try have ham1 : w.heap.size < w1.heap.size + 2 := by omega)
  have HB1 : Below w.heap.size w w1 := by (repeat' (first | (with_reducible exact Below.refl _ _) | (with_reducible assumption) | (with_reducible refine Below.trans ?_ (Below.mono (by with_reducible assumption) ?_)) | (with_reducible refine Below.alloc ?_ ?_ _) | (with_reducible refine Below.setCell ?_ ?_ _) | (with_reducible refine below_drewN ?_ _) | (with_reducible refine Below.drew ?_) | go_size))
  go_wp2
  go_loopw [6, 7] (fun e t wr => ∃ k : Int, 0 ≤ k ∧ k ≤ n ∧ t = .int .i64 k ∧ e = .int .i64 0 ∧ DateAt wr w1.heap.size (a + k) ∧ w1.heap.size < wr.heap.size ∧ Below w.heap.size w wr) (fun _ t _ => (n - intOf t).toNat)
  case atStart =>
    go_light
    exact ⟨0, by omega, by omega, rfl, rfl, ⟨y, m, d, V.out, by rw [Int.add_zero]; exact HN.out.symm, by simp [Cells3]⟩, by simp, by (repeat' (first | (with_reducible exact Below.refl _ _) | (with_reducible assumption) | (with_reducible refine Below.trans ?_ (Below.mono (by with_reducible assumption) ?_)) | (with_reducible refine Below.alloc ?_ ?_ _) | (with_reducible refine Below.setCell ?_ ?_ _) | (with_reducible refine below_drewN ?_ _) | (with_reducible refine Below.drew ?_) | go_size))⟩
  case round =>
    obtain ⟨k, k0, k1, rfl, rfl, HD, hsz, HB⟩ := hrel
    obtain ⟨y', m', d', v', hn', hcells⟩ := HD
    have HC := Lib.hid hcells
    obtain ⟨c0, c1, c2, f0, f1, f2⟩ := hcells
    have hb' := Cal.num_bd v'
    have V' := Lib.hid v'
    have N' := Lib.hid hn'
    clear v' hn'
    have hw1 := hb1.size
    by_cases hk : k < n
    · obtain ⟨y2, m2, d2, v2, hn2⟩ := Cal.date_ex (a + k + 1) (by omega) (by omega)
      have V2 := Lib.hid v2
      have N2 := Lib.hid hn2
      clear v2 hn2
      go_wp2_with fail
      refine (cal_days_yes y' m' d' _ V'.out).mono ?_; rintro e w2 ⟨rfl, hb2⟩; obtain ⟨hc2, hf2⟩ := bcell hb2; have hz2 := hb2.size
      rw [← N'.out]
      go_wp2_with fail
      refine (cal_date_yes y2 m2 d2 _ _ V2.out N2.out.symm).mono ?_; rintro e w3 ⟨rfl, hb3⟩; obtain ⟨hc3, hf3⟩ := bcell hb3; have hz3 := hb3.size
      have hl2 : w1.heap.size < w2.heap.size := by omega
      go_wp2
      go_roundw
      case rel =>
        go_light
        refine ⟨k + 1, by omega, by omega, rfl, rfl, ⟨y2, m2, d2, V2.out, by have := N2.out; omega, ?_⟩, ?_, ?_⟩
        · have x0 := (hc3 w1.heap.size 0 hl2).trans ((hc2 w1.heap.size 0 hsz).trans c0)
          have x1 := (hc3 w1.heap.size 1 hl2).trans ((hc2 w1.heap.size 1 hsz).trans c1)
          have x2 := (hc3 w1.heap.size 2 hl2).trans ((hc2 w1.heap.size 2 hsz).trans c2)
          have y0 := (hf3 w1.heap.size 0 hl2).trans ((hf2 w1.heap.size 0 hsz).trans f0)
          have y1 := (hf3 w1.heap.size 1 hl2).trans ((hf2 w1.heap.size 1 hsz).trans f1)
          have y2 := (hf3 w1.heap.size 2 hl2).trans ((hf2 w1.heap.size 2 hsz).trans f2)
          clear hc2 hc3 hf2 hf3
          simp [Cells3, x0, x1, x2, y0, y1, y2, go_sem]
        · simp; omega
        · (repeat' (first | (with_reducible exact Below.refl _ _) | (with_reducible assumption) | (with_reducible refine Below.trans ?_ (Below.mono (by with_reducible assumption) ?_)) | (with_reducible refine Below.alloc ?_ ?_ _) | (with_reducible refine Below.setCell ?_ ?_ _) | (with_reducible refine below_drewN ?_ _) | (with_reducible refine Below.drew ?_) | go_size))
      case measure => simp [intOf]; omega
    · obtain rfl : k = n := by omega
      go_wp2_with fail
      refine (cal_date_yes y' m' d' _ _ V'.out N'.out).mono ?_; rintro e w2 ⟨rfl, hb2⟩; obtain ⟨hc2, hf2⟩ := bcell hb2; have hz2 := hb2.size
      have hl2 : w1.heap.size < w2.heap.size := by omega
      go_wp2_with (go_at_call 12; refine (known2 _).mono ?_; rintro e w5 ⟨rfl, hb5⟩; obtain ⟨hc5, hf5⟩ := bcell hb5; have hz5 := hb5.size; (try simp only [World.size_alloc, World.size_setCell, World.heap_drewN] at hb5 hc5 hf5 hz5); (try have ha05 : w.heap.size < w5.heap.size := by omega); (try have ha15 : w.heap.size + 1 < w5.heap.size := by omega); (try have ha25 : w.heap.size + 2 < w5.heap.size := by omega); (try have hal5 : w.heap.size ≤ w5.heap.size := by omega); (try have ham5 : w.heap.size < w5.heap.size + 2 := by omega))
      go_ret
      go_light
      exact ⟨rfl, by (repeat' (first | (with_reducible exact Below.refl _ _) | (with_reducible assumption) | (with_reducible refine Below.trans ?_ (Below.mono (by with_reducible assumption) ?_)) | (with_reducible refine Below.alloc ?_ ?_ _) | (with_reducible refine Below.setCell ?_ ?_ _) | (with_reducible refine below_drewN ?_ _) | (with_reducible refine Below.drew ?_) | go_size))⟩
end Go.Proofs.Ytlmbhiidbcpihaa
