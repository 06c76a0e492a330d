/- The reference's tables: leaps, Is. -/
import Derived.Test.YtepdnkpmkhjlgaaGreatM9B
import Derived.Test.YtepdnkpmkhjlgaaGreatM9A
set_option linter.unusedSimpArgs false
set_option linter.unusedVariables false
namespace Go.Proofs.YtepdnkpmkhjlgaaGreat
open Go.RowKit

theorem ref2_date_some (n : Int) (h0 : -719162 ≤ n) (h1 : n ≤ 2932896) : ∃ y m d : Int, (First n ↔ d = 1) ∧ 1 ≤ d ∧ d ≤ 31 ∧ ∀ w : World, Calls Tryz.prog 95 #[.int .i64 n] w fun e w' => e = .returned (.tuple #[.agg #[.int .i64 y, .int .i64 m, .int .i64 d], .int .i64 0]) ∧ Below w.heap.size w w' := by
  obtain ⟨y, m, d, hv, hn⟩ := Cal.date_ex n h0 h1
  have hd := Cal.dim_bd y m
  exact ⟨y, m, d, first_iff hv hn.symm, hv.2.2.2.2.1, by have := hv.2.2.2.2.2; omega, fun w => ref2_date_yes y m d n w hv hn.symm⟩
theorem ref2_in_yes (n : Int) (w : World) (h0 : -719162 ≤ n) (h1 : n ≤ 2932896) : Calls Tryz.prog 74 #[.int .i64 n] w fun e w' => e = .returned (.bool true) ∧ w = w' := by
  have := ref2_in n w
  rwa [decide_eq_true (show -719162 ≤ n from h0), decide_eq_true (show n < 2932897 from by omega)] at this
theorem ref2_in_no (n : Int) (w : World) (h : n < -719162 ∨ 2932896 < n) : Calls Tryz.prog 74 #[.int .i64 n] w fun e w' => e = .returned (.bool false) ∧ w = w' := by
  have := ref2_in n w
  have hB : (decide (-719162 ≤ n) && decide (n < 2932897)) = false := by
    rcases h with h | h
    · rw [decide_eq_false (by omega)]; rfl
    · rw [Bool.and_comm, decide_eq_false (by omega)]; rfl
  rwa [hB] at this
/-- What may stand at k among the leaps, for the reference: none beyond a hundred. -/
def LeapOkR (z : Nat → Int) (k : Nat) : Prop := k < 100 ∧ LeapOk z k
set_option maxRecDepth 100000 in
set_option maxHeartbeats 8000000 in
/-- One round of the walk over leaps that may stand. -/
theorem ref3_leaps_yes (A : Option Addr) (n c : Nat) (z : Nat → Int) (w : World) (hz : FlatAt w A 2 n z) (hl : ∀ k, k < n → LeapOkR z k) (hn : n ≤ 100) :
    Calls Tryz.prog 79 #[.slice A n c] w fun e w' => e = .returned (.bool true) ∧ Below w.heap.size w w' := by
  have HZ := Lib.hid hz
  have HL := Lib.hid hl
  clear hz hl
  have n100' : (n : Int) ≤ 100 := by omega
  go_enter Tryz.func79, Tryz.ntmps79
  go_wp2
  go_loopw [3] (fun i wr => ∃ k : Nat, k ≤ n ∧ i = .int .i64 k ∧ Below w.heap.size w wr) (fun i _ => n - (intOf i).toNat)
  case atStart => exact ⟨0, Nat.zero_le _, rfl, Below.refl _ _⟩
  case round =>
    obtain ⟨k, hk, rfl, HB⟩ := hrel
    have zr := HB.size
    by_cases hlt : k < n
    · obtain ⟨B, O, rfl, hB, hcells⟩ := HZ.out (by omega)
      have lB : B < wr.heap.size := Nat.lt_of_lt_of_le hB HB.size
      have lk : (k : Int) < (n : Int) := by omega
      have lk100 : (k : Int) < 100 := by omega
      have c0 : wr.cell? ⟨B, O + k * 2, none⟩ = some (.int .i64 (z (k * 2))) := (HB.cell (p := ⟨B, O + k * 2, none⟩) hB).trans (hcells (k * 2) (by omega)).1
      have c1 : wr.cell? ⟨B, O + k * 2 + 1, none⟩ = some (.int .i64 (z (k * 2 + 1))) := (HB.cell (p := ⟨B, O + (k * 2 + 1), none⟩) hB).trans (hcells (k * 2 + 1) (by omega)).1
      obtain ⟨_, g0, g1, g2, g3, g4⟩ := HL.out k hlt
      obtain ⟨y, m, d, hf, d0, d1, hd⟩ := ref2_date_some _ g0 g1
      have HI := Lib.hid fun w : World => ref2_in_yes (z (k * 2)) w g0 g1
      have HD := Lib.hid hd
      clear hd
      generalize z (k * 2) = a0 at *
      generalize z (k * 2 + 1) = a1 at *
      by_cases h0 : k = 0
      · have e0 : ((k : Int) == 0) = true := by simp [h0]
        clear g4 h0 hcells hf
        go_wp2_with (go_at_call 74; refine (HI.out _).mono ?_; rintro e w' ⟨rfl, rfl⟩)
        go_roundw
        case rel => exact ⟨k + 1, by omega, by go_num, HB⟩
        case measure => simp [intOf]; omega
      · have e0 : ((k : Int) == 0) = false := by simp; omega
        obtain ⟨g5, g6, g7⟩ := g4.resolve_left h0
        obtain ⟨_, _, _, q2, q3, _⟩ := HL.out (k - 1) (by omega)
        have c2 : wr.cell? ⟨B, O + (k - 1) * 2, none⟩ = some (.int .i64 (z ((k - 1) * 2))) := (HB.cell (p := ⟨B, O + (k - 1) * 2, none⟩) hB).trans (hcells ((k - 1) * 2) (by omega)).1
        have c3 : wr.cell? ⟨B, O + (k - 1) * 2 + 1, none⟩ = some (.int .i64 (z ((k - 1) * 2 + 1))) := (HB.cell (p := ⟨B, O + ((k - 1) * 2 + 1), none⟩) hB).trans (hcells ((k - 1) * 2 + 1) (by omega)).1
        have d1' : (d != 1) = false := by simp; exact hf.1 g6
        have k1 : (1 : Int) ≤ (k : Int) := by omega
        have k2 : (k : Int) - 1 < (n : Int) := by omega
        have k3 : (0 : Int) ≤ (k : Int) - 1 := by omega
        generalize z ((k - 1) * 2) = b0 at *
        generalize z ((k - 1) * 2 + 1) = b1 at *
        have s0 : IntKind.i64.wrap (a1 - b1) = a1 - b1 := IntWalk.i64_in _ (by omega)
        have e5 : decide (a0 ≤ b0) = false := by simp; omega
        clear g4 h0 hcells g6 hf
        rcases g7 with g7 | g7
        · have s1 : (a1 - b1 != 1) = false := by simp; omega
          clear g7
          go_wp2_with (first | (go_at_call 74; refine (HI.out _).mono ?_; rintro e w' ⟨rfl, rfl⟩) | ((go_at_call 95; refine (HD.out _).mono ?_; rintro e w5 ⟨rfl, hb5⟩; obtain ⟨hc5, hf5⟩ := bcell hb5; have hz5 := hb5.size; (try simp only [World.size_alloc, World.size_setCell, World.heap_drewN] at hb5 hc5 hf5 hz5); (try have ha05 : w.heap.size < w5.heap.size := by omega); (try have ha15 : w.heap.size + 1 < w5.heap.size := by omega); (try have ha25 : w.heap.size + 2 < w5.heap.size := by omega); (try have hal5 : w.heap.size ≤ w5.heap.size := by omega); (try have ham5 : w.heap.size < w5.heap.size + 2 := by omega); (try have hb05 : wr.heap.size < w5.heap.size := by omega); (try have hb15 : wr.heap.size + 1 < w5.heap.size := by omega); (try have hb25 : wr.heap.size + 2 < w5.heap.size := by omega); (try have hbl5 : wr.heap.size ≤ w5.heap.size := by omega); (try have hbm5 : wr.heap.size < w5.heap.size + 2 := by omega)); have lB5 : B < w5.heap.size := (by omega); have lB6 : B < w5.heap.size + 1 := (by omega); have zr5 : w.heap.size ≤ w5.heap.size := (by omega)))
          go_quiet (fail)
          go_wp2
          go_quiet (fail)
          go_wp2
          go_roundw
          case rel => exact ⟨k + 1, by omega, by go_num, by (repeat' (first | (with_reducible exact Below.refl _ _) | (with_reducible assumption) | (with_reducible refine Below.trans ?_ (Below.mono (by with_reducible assumption) ?_)) | (with_reducible refine Below.alloc ?_ ?_ _) | (with_reducible refine Below.setCell ?_ ?_ _) | (with_reducible refine below_drewN ?_ _) | (with_reducible refine Below.drew ?_) | go_size))⟩
          case measure => simp [intOf]; omega
        · have s1 : (a1 - b1 != 1) = true := by simp; omega
          have s2 : (a1 - b1 != -1) = false := by simp; omega
          clear g7
          go_wp2_with (first | (go_at_call 74; refine (HI.out _).mono ?_; rintro e w' ⟨rfl, rfl⟩) | ((go_at_call 95; refine (HD.out _).mono ?_; rintro e w5 ⟨rfl, hb5⟩; obtain ⟨hc5, hf5⟩ := bcell hb5; have hz5 := hb5.size; (try simp only [World.size_alloc, World.size_setCell, World.heap_drewN] at hb5 hc5 hf5 hz5); (try have ha05 : w.heap.size < w5.heap.size := by omega); (try have ha15 : w.heap.size + 1 < w5.heap.size := by omega); (try have ha25 : w.heap.size + 2 < w5.heap.size := by omega); (try have hal5 : w.heap.size ≤ w5.heap.size := by omega); (try have ham5 : w.heap.size < w5.heap.size + 2 := by omega); (try have hb05 : wr.heap.size < w5.heap.size := by omega); (try have hb15 : wr.heap.size + 1 < w5.heap.size := by omega); (try have hb25 : wr.heap.size + 2 < w5.heap.size := by omega); (try have hbl5 : wr.heap.size ≤ w5.heap.size := by omega); (try have hbm5 : wr.heap.size < w5.heap.size + 2 := by omega)); have lB5 : B < w5.heap.size := (by omega); have lB6 : B < w5.heap.size + 1 := (by omega); have zr5 : w.heap.size ≤ w5.heap.size := (by omega)))
          go_quiet (fail)
          go_wp2
          go_quiet (fail)
          go_wp2
          go_roundw
          case rel => exact ⟨k + 1, by omega, by go_num, by (repeat' (first | (with_reducible exact Below.refl _ _) | (with_reducible assumption) | (with_reducible refine Below.trans ?_ (Below.mono (by with_reducible assumption) ?_)) | (with_reducible refine Below.alloc ?_ ?_ _) | (with_reducible refine Below.setCell ?_ ?_ _) | (with_reducible refine below_drewN ?_ _) | (with_reducible refine Below.drew ?_) | go_size))⟩
          case measure => simp [intOf]; omega
    · obtain rfl : k = n := by omega
      go_wp2
      go_ret
      exact ⟨rfl, HB⟩
end Go.Proofs.YtepdnkpmkhjlgaaGreat
