/- The reference's leaps that may not stand. -/
import Derived.Test.YtepdnkpmkhjlgaaGreatRef3
set_option linter.unusedSimpArgs false
set_option linter.unusedVariables false
namespace Go.Proofs.YtepdnkpmkhjlgaaGreat
open Go.RowKit

set_option maxRecDepth 100000 in
set_option maxHeartbeats 8000000 in
theorem ref3_leaps_no (A : Option Addr) (n c : Nat) (z : Nat → Int) (w : World) (hz : FlatAt w A 2 n z) (hn : n ≤ maxLen) (ht : ¬ ∀ k, k < n → LeapOkR z k) :
    Calls Tryz.prog 79 #[.slice A n c] w fun e w' => e = .returned (.bool false) ∧ Below w.heap.size w w' := by
  unfold maxLen at hn
  have HZ := Lib.hid hz
  have HT := Lib.hid ht
  clear hz ht
  go_enter Tryz.func79, Tryz.ntmps79
  go_wp2
  go_loopw [3] (fun i wr => ∃ k : Nat, k ≤ n ∧ i = .int .i64 k ∧ (∀ j, j < k → LeapOkR z j) ∧ Below w.heap.size w wr) (fun i _ => n - (intOf i).toNat)
  case atStart => exact ⟨0, Nat.zero_le _, rfl, fun j hj => absurd hj (by omega), Below.refl _ _⟩
  case round =>
    obtain ⟨k, hk, rfl, hl, HB⟩ := hrel
    have HL := Lib.hid hl
    clear hl
    have zr := HB.size
    by_cases hlt : k < n
    · obtain ⟨B, O, rfl, hB, hcells⟩ := HZ.out (by omega)
      have lB : B < wr.heap.size := Nat.lt_of_lt_of_le hB HB.size
      have lk : (k : Int) < (n : Int) := by omega
      have c0 : wr.cell? ⟨B, O + k * 2, none⟩ = some (.int .i64 (z (k * 2))) := (HB.cell (p := ⟨B, O + k * 2, none⟩) hB).trans (hcells (k * 2) (by omega)).1
      have c1 : wr.cell? ⟨B, O + k * 2 + 1, none⟩ = some (.int .i64 (z (k * 2 + 1))) := (HB.cell (p := ⟨B, O + (k * 2 + 1), none⟩) hB).trans (hcells (k * 2 + 1) (by omega)).1
      by_cases hok : LeapOkR z k
      · have HK : Hid (∀ j, j < k + 1 → LeapOkR z j) := Lib.hid fun j hj => by
          rcases (show j < k ∨ j = k from by omega) with h1 | rfl
          · exact HL.out j h1
          · exact hok
        obtain ⟨k99, g0, g1, g2, g3, g4⟩ := hok
        have lk100 : (k : Int) < 100 := by omega
        obtain ⟨y, m, d, hf, d0, d1, hd⟩ := ref2_date_some _ g0 g1
        have HI := Lib.hid fun w : World => ref2_in_yes (z (k * 2)) w g0 g1
        have HD := Lib.hid hd
        clear hd
        generalize z (k * 2) = a0 at *
        generalize z (k * 2 + 1) = a1 at *
        by_cases h0 : k = 0
        · have e0 : ((k : Int) == 0) = true := by simp [h0]
          clear g4 h0 hcells hf
          go_wp2_with (go_at_call 74; refine (HI.out _).mono ?_; rintro e w' ⟨rfl, rfl⟩)
          go_roundw
          case rel => exact ⟨k + 1, by omega, by go_num, HK.out, HB⟩
          case measure => simp [intOf]; omega
        · have e0 : ((k : Int) == 0) = false := by simp; omega
          obtain ⟨g5, g6, g7⟩ := g4.resolve_left h0
          obtain ⟨_, _, _, q2, q3, _⟩ := HL.out (k - 1) (by omega)
          have c2 : wr.cell? ⟨B, O + (k - 1) * 2, none⟩ = some (.int .i64 (z ((k - 1) * 2))) := (HB.cell (p := ⟨B, O + (k - 1) * 2, none⟩) hB).trans (hcells ((k - 1) * 2) (by omega)).1
          have c3 : wr.cell? ⟨B, O + (k - 1) * 2 + 1, none⟩ = some (.int .i64 (z ((k - 1) * 2 + 1))) := (HB.cell (p := ⟨B, O + ((k - 1) * 2 + 1), none⟩) hB).trans (hcells ((k - 1) * 2 + 1) (by omega)).1
          have d1' : (d != 1) = false := by simp; exact hf.1 g6
          have k1 : (1 : Int) ≤ (k : Int) := by omega
          have k2 : (k : Int) - 1 < (n : Int) := by omega
          have k3 : (0 : Int) ≤ (k : Int) - 1 := by omega
          generalize z ((k - 1) * 2) = b0 at *
          generalize z ((k - 1) * 2 + 1) = b1 at *
          have s0 : IntKind.i64.wrap (a1 - b1) = a1 - b1 := IntWalk.i64_in _ (by omega)
          have e5 : decide (a0 ≤ b0) = false := by simp; omega
          clear g4 h0 hcells g6 hf
          rcases g7 with g7 | g7
          · have s1 : (a1 - b1 != 1) = false := by simp; omega
            clear g7
            go_wp2_with (first | (go_at_call 74; refine (HI.out _).mono ?_; rintro e w' ⟨rfl, rfl⟩) | ((go_at_call 95; refine (HD.out _).mono ?_; rintro e w5 ⟨rfl, hb5⟩; obtain ⟨hc5, hf5⟩ := bcell hb5; have hz5 := hb5.size; (try simp only [World.size_alloc, World.size_setCell, World.heap_drewN] at hb5 hc5 hf5 hz5); (try have ha05 : w.heap.size < w5.heap.size := by omega); (try have ha15 : w.heap.size + 1 < w5.heap.size := by omega); (try have ha25 : w.heap.size + 2 < w5.heap.size := by omega); (try have hal5 : w.heap.size ≤ w5.heap.size := by omega); (try have ham5 : w.heap.size < w5.heap.size + 2 := by omega); (try have hb05 : wr.heap.size < w5.heap.size := by omega); (try have hb15 : wr.heap.size + 1 < w5.heap.size := by omega); (try have hb25 : wr.heap.size + 2 < w5.heap.size := by omega); (try have hbl5 : wr.heap.size ≤ w5.heap.size := by omega); (try have hbm5 : wr.heap.size < w5.heap.size + 2 := by omega)); have lB5 : B < w5.heap.size := (by omega); have lB6 : B < w5.heap.size + 1 := (by omega); have zr5 : w.heap.size ≤ w5.heap.size := (by omega)))
            go_quiet (fail)
            go_wp2
            go_quiet (fail)
            go_wp2
            go_roundw
            case rel => exact ⟨k + 1, by omega, by go_num, HK.out, by (repeat' (first | (with_reducible exact Below.refl _ _) | (with_reducible assumption) | (with_reducible refine Below.trans ?_ (Below.mono (by with_reducible assumption) ?_)) | (with_reducible refine Below.alloc ?_ ?_ _) | (with_reducible refine Below.setCell ?_ ?_ _) | (with_reducible refine below_drewN ?_ _) | (with_reducible refine Below.drew ?_) | go_size))⟩
            case measure => simp [intOf]; omega
          · have s1 : (a1 - b1 != 1) = true := by simp; omega
            have s2 : (a1 - b1 != -1) = false := by simp; omega
            clear g7
            go_wp2_with (first | (go_at_call 74; refine (HI.out _).mono ?_; rintro e w' ⟨rfl, rfl⟩) | ((go_at_call 95; refine (HD.out _).mono ?_; rintro e w5 ⟨rfl, hb5⟩; obtain ⟨hc5, hf5⟩ := bcell hb5; have hz5 := hb5.size; (try simp only [World.size_alloc, World.size_setCell, World.heap_drewN] at hb5 hc5 hf5 hz5); (try have ha05 : w.heap.size < w5.heap.size := by omega); (try have ha15 : w.heap.size + 1 < w5.heap.size := by omega); (try have ha25 : w.heap.size + 2 < w5.heap.size := by omega); (try have hal5 : w.heap.size ≤ w5.heap.size := by omega); (try have ham5 : w.heap.size < w5.heap.size + 2 := by omega); (try have hb05 : wr.heap.size < w5.heap.size := by omega); (try have hb15 : wr.heap.size + 1 < w5.heap.size := by omega); (try have hb25 : wr.heap.size + 2 < w5.heap.size := by omega); (try have hbl5 : wr.heap.size ≤ w5.heap.size := by omega); (try have hbm5 : wr.heap.size < w5.heap.size + 2 := by omega)); have lB5 : B < w5.heap.size := (by omega); have lB6 : B < w5.heap.size + 1 := (by omega); have zr5 : w.heap.size ≤ w5.heap.size := (by omega)))
            go_quiet (fail)
            go_wp2
            go_quiet (fail)
            go_wp2
            go_roundw
            case rel => exact ⟨k + 1, by omega, by go_num, HK.out, by (repeat' (first | (with_reducible exact Below.refl _ _) | (with_reducible assumption) | (with_reducible refine Below.trans ?_ (Below.mono (by with_reducible assumption) ?_)) | (with_reducible refine Below.alloc ?_ ?_ _) | (with_reducible refine Below.setCell ?_ ?_ _) | (with_reducible refine below_drewN ?_ _) | (with_reducible refine Below.drew ?_) | go_size))⟩
            case measure => simp [intOf]; omega
      · have hbad : ¬ (k < 100 ∧ -719162 ≤ z (k * 2) ∧ z (k * 2) ≤ 2932896 ∧ 0 ≤ z (k * 2 + 1) ∧ z (k * 2 + 1) ≤ 1000 ∧ (k = 0 ∨ (z ((k - 1) * 2) < z (k * 2) ∧ First (z (k * 2)) ∧ (z (k * 2 + 1) - z ((k - 1) * 2 + 1) = 1 ∨ z (k * 2 + 1) - z ((k - 1) * 2 + 1) = -1)))) := hok
        clear hok
        have hq : k ≠ 0 → wr.cell? ⟨B, O + (k - 1) * 2, none⟩ = some (.int .i64 (z ((k - 1) * 2))) ∧ wr.cell? ⟨B, O + (k - 1) * 2 + 1, none⟩ = some (.int .i64 (z ((k - 1) * 2 + 1))) ∧ 0 ≤ z ((k - 1) * 2 + 1) ∧ z ((k - 1) * 2 + 1) ≤ 1000 := fun h0 => by
          obtain ⟨_, _, _, q2, q3, _⟩ := HL.out (k - 1) (by omega)
          exact ⟨(HB.cell (p := ⟨B, O + (k - 1) * 2, none⟩) hB).trans (hcells ((k - 1) * 2) (by omega)).1, (HB.cell (p := ⟨B, O + ((k - 1) * 2 + 1), none⟩) hB).trans (hcells ((k - 1) * 2 + 1) (by omega)).1, q2, q3⟩
        clear hcells
        generalize z (k * 2) = a0 at *
        generalize z (k * 2 + 1) = a1 at *
        generalize z ((k - 1) * 2) = b0 at *
        generalize z ((k - 1) * 2 + 1) = b1 at *
        by_cases r0 : 100 ≤ k
        · have r0' : (100 : Int) ≤ (k : Int) := by omega
          clear hbad hq r0
          go_wp2
          go_ret
          go_light
          exact ⟨rfl, by (repeat' (first | (with_reducible exact Below.refl _ _) | (with_reducible assumption) | (with_reducible refine Below.trans ?_ (Below.mono (by with_reducible assumption) ?_)) | (with_reducible refine Below.alloc ?_ ?_ _) | (with_reducible refine Below.setCell ?_ ?_ _) | (with_reducible refine below_drewN ?_ _) | (with_reducible refine Below.drew ?_) | go_size))⟩
        · have r0' : (k : Int) < 100 := by omega
          by_cases r : a0 < -719162 ∨ 2932896 < a0
          · have HI := Lib.hid fun w : World => ref2_in_no a0 w r
            clear hbad hq r
            go_wp2_with (go_at_call 74; refine (HI.out _).mono ?_; rintro e w' ⟨rfl, rfl⟩)
            go_ret
            go_light
            exact ⟨rfl, by (repeat' (first | (with_reducible exact Below.refl _ _) | (with_reducible assumption) | (with_reducible refine Below.trans ?_ (Below.mono (by with_reducible assumption) ?_)) | (with_reducible refine Below.alloc ?_ ?_ _) | (with_reducible refine Below.setCell ?_ ?_ _) | (with_reducible refine below_drewN ?_ _) | (with_reducible refine Below.drew ?_) | go_size))⟩
          · have HI := Lib.hid fun w : World => ref2_in_yes a0 w (by omega) (by omega)
            by_cases r1 : a1 < 0
            · clear hbad hq r
              go_wp2_with (go_at_call 74; refine (HI.out _).mono ?_; rintro e w' ⟨rfl, rfl⟩)
              go_ret
              go_light
              exact ⟨rfl, by (repeat' (first | (with_reducible exact Below.refl _ _) | (with_reducible assumption) | (with_reducible refine Below.trans ?_ (Below.mono (by with_reducible assumption) ?_)) | (with_reducible refine Below.alloc ?_ ?_ _) | (with_reducible refine Below.setCell ?_ ?_ _) | (with_reducible refine below_drewN ?_ _) | (with_reducible refine Below.drew ?_) | go_size))⟩
            · have r1' : 0 ≤ a1 := by omega
              by_cases r2 : 1000 < a1
              · clear hbad hq r r1
                go_wp2_with (go_at_call 74; refine (HI.out _).mono ?_; rintro e w' ⟨rfl, rfl⟩)
                go_ret
                go_light
                exact ⟨rfl, by (repeat' (first | (with_reducible exact Below.refl _ _) | (with_reducible assumption) | (with_reducible refine Below.trans ?_ (Below.mono (by with_reducible assumption) ?_)) | (with_reducible refine Below.alloc ?_ ?_ _) | (with_reducible refine Below.setCell ?_ ?_ _) | (with_reducible refine below_drewN ?_ _) | (with_reducible refine Below.drew ?_) | go_size))⟩
              · have r2' : a1 ≤ 1000 := by omega
                have h0 : k ≠ 0 := fun h => hbad ⟨by omega, by omega, by omega, by omega, by omega, .inl h⟩
                obtain ⟨y, m, d, hf, d0, d1, hd⟩ := ref2_date_some a0 (by omega) (by omega)
                have HD := Lib.hid hd
                clear hd
                obtain ⟨c2, c3, q2, q3⟩ := hq h0
                have e0 : ((k : Int) == 0) = false := by simp; omega
                have k1 : (1 : Int) ≤ (k : Int) := by omega
                have k2 : (k : Int) - 1 < (n : Int) := by omega
                have k3 : (0 : Int) ≤ (k : Int) - 1 := by omega
                have s0 : IntKind.i64.wrap (a1 - b1) = a1 - b1 := IntWalk.i64_in _ (by omega)
                by_cases r3 : a0 ≤ b0
                · have e5 : decide (a0 ≤ b0) = true := by simpa using r3
                  clear hbad hq r hf r1 r2 h0 r3
                  go_wp2_with (first | (go_at_call 74; refine (HI.out _).mono ?_; rintro e w' ⟨rfl, rfl⟩) | ((go_at_call 95; refine (HD.out _).mono ?_; rintro e w5 ⟨rfl, hb5⟩; obtain ⟨hc5, hf5⟩ := bcell hb5; have hz5 := hb5.size; (try simp only [World.size_alloc, World.size_setCell, World.heap_drewN] at hb5 hc5 hf5 hz5); (try have ha05 : w.heap.size < w5.heap.size := by omega); (try have ha15 : w.heap.size + 1 < w5.heap.size := by omega); (try have ha25 : w.heap.size + 2 < w5.heap.size := by omega); (try have hal5 : w.heap.size ≤ w5.heap.size := by omega); (try have ham5 : w.heap.size < w5.heap.size + 2 := by omega); (try have hb05 : wr.heap.size < w5.heap.size := by omega); (try have hb15 : wr.heap.size + 1 < w5.heap.size := by omega); (try have hb25 : wr.heap.size + 2 < w5.heap.size := by omega); (try have hbl5 : wr.heap.size ≤ w5.heap.size := by omega); (try have hbm5 : wr.heap.size < w5.heap.size + 2 := by omega)); have lB5 : B < w5.heap.size := (by omega); have lB6 : B < w5.heap.size + 1 := (by omega); have zr5 : w.heap.size ≤ w5.heap.size := (by omega)))
                  go_quiet (fail)
                  go_wp2
                  go_quiet (fail)
                  go_wp2
                  go_ret
                  go_light
                  exact ⟨rfl, by (repeat' (first | (with_reducible exact Below.refl _ _) | (with_reducible assumption) | (with_reducible refine Below.trans ?_ (Below.mono (by with_reducible assumption) ?_)) | (with_reducible refine Below.alloc ?_ ?_ _) | (with_reducible refine Below.setCell ?_ ?_ _) | (with_reducible refine below_drewN ?_ _) | (with_reducible refine Below.drew ?_) | go_size))⟩
                · have e5 : decide (a0 ≤ b0) = false := by simpa using r3
                  by_cases r4 : d = 1
                  · have s1 : (a1 - b1 != 1) = true := by
                      simp
                      intro h
                      exact hbad ⟨by omega, by omega, by omega, by omega, by omega, .inr ⟨by omega, hf.2 r4, .inl h⟩⟩
                    have s2 : (a1 - b1 != -1) = true := by
                      simp
                      intro h
                      exact hbad ⟨by omega, by omega, by omega, by omega, by omega, .inr ⟨by omega, hf.2 r4, .inr h⟩⟩
                    have dd : (d != 1) = false := by simp; exact r4
                    clear hbad hq r hf r1 r2 h0 r3 r4
                    go_wp2_with (first | (go_at_call 74; refine (HI.out _).mono ?_; rintro e w' ⟨rfl, rfl⟩) | ((go_at_call 95; refine (HD.out _).mono ?_; rintro e w5 ⟨rfl, hb5⟩; obtain ⟨hc5, hf5⟩ := bcell hb5; have hz5 := hb5.size; (try simp only [World.size_alloc, World.size_setCell, World.heap_drewN] at hb5 hc5 hf5 hz5); (try have ha05 : w.heap.size < w5.heap.size := by omega); (try have ha15 : w.heap.size + 1 < w5.heap.size := by omega); (try have ha25 : w.heap.size + 2 < w5.heap.size := by omega); (try have hal5 : w.heap.size ≤ w5.heap.size := by omega); (try have ham5 : w.heap.size < w5.heap.size + 2 := by omega); (try have hb05 : wr.heap.size < w5.heap.size := by omega); (try have hb15 : wr.heap.size + 1 < w5.heap.size := by omega); (try have hb25 : wr.heap.size + 2 < w5.heap.size := by omega); (try have hbl5 : wr.heap.size ≤ w5.heap.size := by omega); (try have hbm5 : wr.heap.size < w5.heap.size + 2 := by omega)); have lB5 : B < w5.heap.size := (by omega); have lB6 : B < w5.heap.size + 1 := (by omega); have zr5 : w.heap.size ≤ w5.heap.size := (by omega)))
                    go_quiet (fail)
                    go_wp2
                    go_quiet (fail)
                    go_wp2
                    go_ret
                    go_light
                    exact ⟨rfl, by (repeat' (first | (with_reducible exact Below.refl _ _) | (with_reducible assumption) | (with_reducible refine Below.trans ?_ (Below.mono (by with_reducible assumption) ?_)) | (with_reducible refine Below.alloc ?_ ?_ _) | (with_reducible refine Below.setCell ?_ ?_ _) | (with_reducible refine below_drewN ?_ _) | (with_reducible refine Below.drew ?_) | go_size))⟩
                  · have dd : (d != 1) = true := by simp; exact r4
                    clear hbad hq r hf r1 r2 h0 r3 r4
                    go_wp2_with (first | (go_at_call 74; refine (HI.out _).mono ?_; rintro e w' ⟨rfl, rfl⟩) | ((go_at_call 95; refine (HD.out _).mono ?_; rintro e w5 ⟨rfl, hb5⟩; obtain ⟨hc5, hf5⟩ := bcell hb5; have hz5 := hb5.size; (try simp only [World.size_alloc, World.size_setCell, World.heap_drewN] at hb5 hc5 hf5 hz5); (try have ha05 : w.heap.size < w5.heap.size := by omega); (try have ha15 : w.heap.size + 1 < w5.heap.size := by omega); (try have ha25 : w.heap.size + 2 < w5.heap.size := by omega); (try have hal5 : w.heap.size ≤ w5.heap.size := by omega); (try have ham5 : w.heap.size < w5.heap.size + 2 := by omega); (try have hb05 : wr.heap.size < w5.heap.size := by omega); (try have hb15 : wr.heap.size + 1 < w5.heap.size := by omega); (try have hb25 : wr.heap.size + 2 < w5.heap.size := by omega); (try have hbl5 : wr.heap.size ≤ w5.heap.size := by omega); (try have hbm5 : wr.heap.size < w5.heap.size + 2 := by omega)); have lB5 : B < w5.heap.size := (by omega); have lB6 : B < w5.heap.size + 1 := (by omega); have zr5 : w.heap.size ≤ w5.heap.size := (by omega)))
                    go_quiet (fail)
                    go_wp2
                    go_quiet (fail)
                    go_wp2
                    go_ret
                    go_light
                    exact ⟨rfl, by (repeat' (first | (with_reducible exact Below.refl _ _) | (with_reducible assumption) | (with_reducible refine Below.trans ?_ (Below.mono (by with_reducible assumption) ?_)) | (with_reducible refine Below.alloc ?_ ?_ _) | (with_reducible refine Below.setCell ?_ ?_ _) | (with_reducible refine below_drewN ?_ _) | (with_reducible refine Below.drew ?_) | go_size))⟩
    · obtain rfl : k = n := by omega
      exact absurd HL.out HT.out
end Go.Proofs.YtepdnkpmkhjlgaaGreat
