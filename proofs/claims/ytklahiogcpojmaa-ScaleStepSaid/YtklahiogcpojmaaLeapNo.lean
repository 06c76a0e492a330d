/- leap.Is of what is no table. -/
import Derived.Test.YtklahiogcpojmaaLeap
set_option linter.unusedSimpArgs false
set_option linter.unusedVariables false
namespace Go.Proofs.Ytklahiogcpojmaa
open Go.RowKit

set_option maxRecDepth 100000 in
set_option maxHeartbeats 16000000 in
theorem leap_is_no (A : Option Addr) (n c : Nat) (x : Int) (z : Nat → Int) (w : World) (hz : FlatAt w A 2 n z) (hn : n ≤ maxLen) (ht : ¬ IsTab z n x) :
    Calls Try.prog 31 #[.agg #[.slice A n c, .int .i64 x]] w fun e w' => e = .returned (.bool false) ∧ Below w.heap.size w w' := by
  unfold maxLen at hn
  have HB0 : Below w.heap.size w (w.alloc (.cells #[.slice A n c, .int .i64 x] 30)) := by (repeat' (first | (with_reducible exact Below.refl _ _) | (with_reducible assumption) | (with_reducible refine Below.trans ?_ (Below.mono (by with_reducible assumption) ?_)) | (with_reducible refine Below.alloc ?_ ?_ _) | (with_reducible refine Below.setCell ?_ ?_ _) | (with_reducible refine below_drewN ?_ _) | (with_reducible refine Below.drew ?_) | go_size))
  have HZ := Lib.hid hz
  have HT := Lib.hid ht
  clear hz ht
  rcases (show n < 1 ∨ 100 < n ∨ (1 ≤ n ∧ n ≤ 100) from by omega) with h | h | ⟨n1, n100⟩
  · have h' : (n : Int) < 1 := by omega
    go_enter Try.func31, Try.ntmps31
    go_wp2
    go_ret
    exact ⟨rfl, HB0⟩
  · have h' : (100 : Int) < (n : Int) := by omega
    have h2 : (1 : Int) ≤ (n : Int) := by omega
    go_enter Try.func31, Try.ntmps31
    go_wp2
    go_ret
    exact ⟨rfl, HB0⟩
  have n1' : (1 : Int) ≤ (n : Int) := by omega
  have n100' : (n : Int) ≤ 100 := by omega
  go_enter Try.func31, Try.ntmps31
  go_wp2_with fail
  go_loopw [24] (fun i wr => ∃ k : Nat, k ≤ n ∧ i = .int .i64 k ∧ (∀ j, j < k → LeapOk z j) ∧ wr.cell? ⟨w.heap.size, 0, none⟩ = some (.slice A n c) ∧ wr.cell? ⟨w.heap.size, 1, none⟩ = some (.int .i64 x) ∧ w.heap.size < wr.heap.size ∧ Below w.heap.size w wr) (fun i _ => n - (intOf i).toNat)
  case atStart => exact ⟨0, Nat.zero_le _, rfl, fun j hj => absurd hj (by omega), by simp, by simp, by simp, HB0⟩
  case round =>
    obtain ⟨k, hk, rfl, hl, t0, t1, lr, HB⟩ := hrel
    have HL := Lib.hid hl
    clear HB0 hl
    by_cases hlt : k < n
    · obtain ⟨B, O, rfl, hB, hcells⟩ := HZ.out (by omega)
      have lB : B < wr.heap.size := Nat.lt_of_lt_of_le hB HB.size
      have nB : B ≠ wr.heap.size := by omega
      have nW : w.heap.size ≠ wr.heap.size := by omega
      have lB1 : B < wr.heap.size + 1 := by omega
      have lW1 : w.heap.size < wr.heap.size + 1 := by omega
      have lk : (k : Int) < (n : Int) := by omega
      have c0 : wr.cell? ⟨B, O + k * 2, none⟩ = some (.int .i64 (z (k * 2))) := (HB.cell (p := ⟨B, O + k * 2, none⟩) hB).trans (hcells (k * 2) (by omega)).1
      have c1 : wr.cell? ⟨B, O + k * 2 + 1, none⟩ = some (.int .i64 (z (k * 2 + 1))) := (HB.cell (p := ⟨B, O + (k * 2 + 1), none⟩) hB).trans (hcells (k * 2 + 1) (by omega)).1
      by_cases hok : LeapOk z k
      · have HK : Hid (∀ j, j < k + 1 → LeapOk z j) := Lib.hid fun j hj => by
          rcases (show j < k ∨ j = k from by omega) with h1 | rfl
          · exact HL.out j h1
          · exact hok
        obtain ⟨g0, g1, g2, g3, g4⟩ := hok
        obtain ⟨y, m, d, hf, d0, d1, hd⟩ := cal_date_some _ g0 g1
        have HD := Lib.hid hd
        clear hd
        generalize z (k * 2) = a0 at *
        generalize z (k * 2 + 1) = a1 at *
        by_cases h0 : k = 0
        · have e0 : ((k : Int) == 0) = true := by simp [h0]
          clear g4 h0 hcells
          go_wp2_with ((go_at_call 32; refine (HD.out _).mono ?_; rintro e w5 ⟨rfl, hb5⟩; obtain ⟨hc5, hf5⟩ := bcell hb5; have hz5 := hb5.size; (try simp only [World.size_alloc, World.size_setCell, World.heap_drewN] at hb5 hc5 hf5 hz5); (try have ha05 : w.heap.size < w5.heap.size := by omega); (try have ha15 : w.heap.size + 1 < w5.heap.size := by omega); (try have ha25 : w.heap.size + 2 < w5.heap.size := by omega); (try have hal5 : w.heap.size ≤ w5.heap.size := by omega); (try have ham5 : w.heap.size < w5.heap.size + 2 := by omega); (try have hb05 : wr.heap.size < w5.heap.size := by omega); (try have hb15 : wr.heap.size + 1 < w5.heap.size := by omega); (try have hb25 : wr.heap.size + 2 < w5.heap.size := by omega); (try have hbl5 : wr.heap.size ≤ w5.heap.size := by omega); (try have hbm5 : wr.heap.size < w5.heap.size + 2 := by omega)); have lB5 : B < w5.heap.size := (by omega); have lW5 : w.heap.size < w5.heap.size := (by omega); have lB6 : B < w5.heap.size + 1 := (by omega); have lW6 : w.heap.size < w5.heap.size + 1 := (by omega); have lR6 : wr.heap.size < w5.heap.size + 1 := (by omega))
          go_roundw
          case rel =>
            refine ⟨k + 1, by omega, by go_num, HK.out, ?_, ?_, by simp; omega, by (repeat' (first | (with_reducible exact Below.refl _ _) | (with_reducible assumption) | (with_reducible refine Below.trans ?_ (Below.mono (by with_reducible assumption) ?_)) | (with_reducible refine Below.alloc ?_ ?_ _) | (with_reducible refine Below.setCell ?_ ?_ _) | (with_reducible refine below_drewN ?_ _) | (with_reducible refine Below.drew ?_) | go_size))⟩
            · rw [World.cell?_alloc_past _ _ _ lW5, hc5 _ _ lW1, World.cell?_alloc_past _ _ _ lr]; exact t0
            · rw [World.cell?_alloc_past _ _ _ lW5, hc5 _ _ lW1, World.cell?_alloc_past _ _ _ lr]; exact t1
          case measure => simp [intOf]; omega
        · have e0 : ((k : Int) == 0) = false := by simp; omega
          have g4' := g4.resolve_left h0
          obtain ⟨g5, g6, g7⟩ := g4'
          obtain ⟨_, _, q2, q3, _⟩ := HL.out (k - 1) (by omega)
          have c2 : wr.cell? ⟨B, O + (k - 1) * 2, none⟩ = some (.int .i64 (z ((k - 1) * 2))) := (HB.cell (p := ⟨B, O + (k - 1) * 2, none⟩) hB).trans (hcells ((k - 1) * 2) (by omega)).1
          have c3 : wr.cell? ⟨B, O + (k - 1) * 2 + 1, none⟩ = some (.int .i64 (z ((k - 1) * 2 + 1))) := (HB.cell (p := ⟨B, O + ((k - 1) * 2 + 1), none⟩) hB).trans (hcells ((k - 1) * 2 + 1) (by omega)).1
          have d1 : (d != 1) = false := by simp; exact hf.1 g6
          have k1 : (1 : Int) ≤ (k : Int) := by omega
          have k2 : (k : Int) - 1 < (n : Int) := by omega
          have k3 : (0 : Int) ≤ (k : Int) - 1 := by omega
          generalize z ((k - 1) * 2) = b0 at *
          generalize z ((k - 1) * 2 + 1) = b1 at *
          clear g4 h0 hcells g6 hf
          rcases g7 with g7 | g7
          · have s1 : (a1 - b1 != 1) = false := by simp; omega
            clear g7
            go_wp2_with ((go_at_call 32; refine (HD.out _).mono ?_; rintro e w5 ⟨rfl, hb5⟩; obtain ⟨hc5, hf5⟩ := bcell hb5; have hz5 := hb5.size; (try simp only [World.size_alloc, World.size_setCell, World.heap_drewN] at hb5 hc5 hf5 hz5); (try have ha05 : w.heap.size < w5.heap.size := by omega); (try have ha15 : w.heap.size + 1 < w5.heap.size := by omega); (try have ha25 : w.heap.size + 2 < w5.heap.size := by omega); (try have hal5 : w.heap.size ≤ w5.heap.size := by omega); (try have ham5 : w.heap.size < w5.heap.size + 2 := by omega); (try have hb05 : wr.heap.size < w5.heap.size := by omega); (try have hb15 : wr.heap.size + 1 < w5.heap.size := by omega); (try have hb25 : wr.heap.size + 2 < w5.heap.size := by omega); (try have hbl5 : wr.heap.size ≤ w5.heap.size := by omega); (try have hbm5 : wr.heap.size < w5.heap.size + 2 := by omega)); have lB5 : B < w5.heap.size := (by omega); have lW5 : w.heap.size < w5.heap.size := (by omega); have lB6 : B < w5.heap.size + 1 := (by omega); have lW6 : w.heap.size < w5.heap.size + 1 := (by omega); have lR6 : wr.heap.size < w5.heap.size + 1 := (by omega))
            go_roundw
            case rel =>
              refine ⟨k + 1, by omega, by go_num, HK.out, ?_, ?_, by simp; omega, by (repeat' (first | (with_reducible exact Below.refl _ _) | (with_reducible assumption) | (with_reducible refine Below.trans ?_ (Below.mono (by with_reducible assumption) ?_)) | (with_reducible refine Below.alloc ?_ ?_ _) | (with_reducible refine Below.setCell ?_ ?_ _) | (with_reducible refine below_drewN ?_ _) | (with_reducible refine Below.drew ?_) | go_size))⟩
              · rw [World.cell?_alloc_past _ _ _ (by simp; omega), World.cell?_alloc_past _ _ _ lW5, hc5 _ _ lW1, World.cell?_alloc_past _ _ _ lr]; exact t0
              · rw [World.cell?_alloc_past _ _ _ (by simp; omega), World.cell?_alloc_past _ _ _ lW5, hc5 _ _ lW1, World.cell?_alloc_past _ _ _ lr]; exact t1
            case measure => simp [intOf]; omega
          · have s1 : (a1 - b1 != 1) = true := by simp; omega
            have s2 : (a1 - b1 != -1) = false := by simp; omega
            clear g7
            go_wp2_with ((go_at_call 32; refine (HD.out _).mono ?_; rintro e w5 ⟨rfl, hb5⟩; obtain ⟨hc5, hf5⟩ := bcell hb5; have hz5 := hb5.size; (try simp only [World.size_alloc, World.size_setCell, World.heap_drewN] at hb5 hc5 hf5 hz5); (try have ha05 : w.heap.size < w5.heap.size := by omega); (try have ha15 : w.heap.size + 1 < w5.heap.size := by omega); (try have ha25 : w.heap.size + 2 < w5.heap.size := by omega); (try have hal5 : w.heap.size ≤ w5.heap.size := by omega); (try have ham5 : w.heap.size < w5.heap.size + 2 := by omega); (try have hb05 : wr.heap.size < w5.heap.size := by omega); (try have hb15 : wr.heap.size + 1 < w5.heap.size := by omega); (try have hb25 : wr.heap.size + 2 < w5.heap.size := by omega); (try have hbl5 : wr.heap.size ≤ w5.heap.size := by omega); (try have hbm5 : wr.heap.size < w5.heap.size + 2 := by omega)); have lB5 : B < w5.heap.size := (by omega); have lW5 : w.heap.size < w5.heap.size := (by omega); have lB6 : B < w5.heap.size + 1 := (by omega); have lW6 : w.heap.size < w5.heap.size + 1 := (by omega); have lR6 : wr.heap.size < w5.heap.size + 1 := (by omega))
            go_roundw
            case rel =>
              refine ⟨k + 1, by omega, by go_num, HK.out, ?_, ?_, by simp; omega, by (repeat' (first | (with_reducible exact Below.refl _ _) | (with_reducible assumption) | (with_reducible refine Below.trans ?_ (Below.mono (by with_reducible assumption) ?_)) | (with_reducible refine Below.alloc ?_ ?_ _) | (with_reducible refine Below.setCell ?_ ?_ _) | (with_reducible refine below_drewN ?_ _) | (with_reducible refine Below.drew ?_) | go_size))⟩
              · rw [World.cell?_alloc_past _ _ _ (by simp; omega), World.cell?_alloc_past _ _ _ lW5, hc5 _ _ lW1, World.cell?_alloc_past _ _ _ lr]; exact t0
              · rw [World.cell?_alloc_past _ _ _ (by simp; omega), World.cell?_alloc_past _ _ _ lW5, hc5 _ _ lW1, World.cell?_alloc_past _ _ _ lr]; exact t1
            case measure => simp [intOf]; omega
      · have hbad : ¬ (-719162 ≤ z (k * 2) ∧ z (k * 2) ≤ 2932896 ∧ 0 ≤ z (k * 2 + 1) ∧ z (k * 2 + 1) ≤ 1000 ∧ (k = 0 ∨ (z ((k - 1) * 2) < z (k * 2) ∧ First (z (k * 2)) ∧ (z (k * 2 + 1) - z ((k - 1) * 2 + 1) = 1 ∨ z (k * 2 + 1) - z ((k - 1) * 2 + 1) = -1)))) := hok
        clear hok
        have hq : k ≠ 0 → wr.cell? ⟨B, O + (k - 1) * 2, none⟩ = some (.int .i64 (z ((k - 1) * 2))) ∧ wr.cell? ⟨B, O + (k - 1) * 2 + 1, none⟩ = some (.int .i64 (z ((k - 1) * 2 + 1))) ∧ 0 ≤ z ((k - 1) * 2 + 1) ∧ z ((k - 1) * 2 + 1) ≤ 1000 := fun h0 => by
          obtain ⟨_, _, q2, q3, _⟩ := HL.out (k - 1) (by omega)
          exact ⟨(HB.cell (p := ⟨B, O + (k - 1) * 2, none⟩) hB).trans (hcells ((k - 1) * 2) (by omega)).1, (HB.cell (p := ⟨B, O + ((k - 1) * 2 + 1), none⟩) hB).trans (hcells ((k - 1) * 2 + 1) (by omega)).1, q2, q3⟩
        clear hcells
        generalize z (k * 2) = a0 at *
        generalize z (k * 2 + 1) = a1 at *
        generalize z ((k - 1) * 2) = b0 at *
        generalize z ((k - 1) * 2 + 1) = b1 at *
        by_cases r : a0 < -719162 ∨ 2932896 < a0
        · have HD := Lib.hid fun w : World => cal_date_no a0 w r
          clear hbad hq r
          go_wp2_with ((go_at_call 32; refine (HD.out _).mono ?_; rintro e w5 ⟨rfl, hb5⟩; obtain ⟨hc5, hf5⟩ := bcell hb5; have hz5 := hb5.size; (try simp only [World.size_alloc, World.size_setCell, World.heap_drewN] at hb5 hc5 hf5 hz5); (try have ha05 : w.heap.size < w5.heap.size := by omega); (try have ha15 : w.heap.size + 1 < w5.heap.size := by omega); (try have ha25 : w.heap.size + 2 < w5.heap.size := by omega); (try have hal5 : w.heap.size ≤ w5.heap.size := by omega); (try have ham5 : w.heap.size < w5.heap.size + 2 := by omega); (try have hb05 : wr.heap.size < w5.heap.size := by omega); (try have hb15 : wr.heap.size + 1 < w5.heap.size := by omega); (try have hb25 : wr.heap.size + 2 < w5.heap.size := by omega); (try have hbl5 : wr.heap.size ≤ w5.heap.size := by omega); (try have hbm5 : wr.heap.size < w5.heap.size + 2 := by omega)); have lB5 : B < w5.heap.size := (by omega); have lW5 : w.heap.size < w5.heap.size := (by omega); have lB6 : B < w5.heap.size + 1 := (by omega); have lW6 : w.heap.size < w5.heap.size + 1 := (by omega); have lR6 : wr.heap.size < w5.heap.size + 1 := (by omega))
          go_ret
          go_light
          exact ⟨rfl, by (repeat' (first | (with_reducible exact Below.refl _ _) | (with_reducible assumption) | (with_reducible refine Below.trans ?_ (Below.mono (by with_reducible assumption) ?_)) | (with_reducible refine Below.alloc ?_ ?_ _) | (with_reducible refine Below.setCell ?_ ?_ _) | (with_reducible refine below_drewN ?_ _) | (with_reducible refine Below.drew ?_) | go_size))⟩
        · obtain ⟨y, m, d, hf, d0, d1, hd⟩ := cal_date_some a0 (by omega) (by omega)
          have HD := Lib.hid hd
          clear hd
          by_cases r1 : a1 < 0
          · clear hbad hq r hf
            go_wp2_with ((go_at_call 32; refine (HD.out _).mono ?_; rintro e w5 ⟨rfl, hb5⟩; obtain ⟨hc5, hf5⟩ := bcell hb5; have hz5 := hb5.size; (try simp only [World.size_alloc, World.size_setCell, World.heap_drewN] at hb5 hc5 hf5 hz5); (try have ha05 : w.heap.size < w5.heap.size := by omega); (try have ha15 : w.heap.size + 1 < w5.heap.size := by omega); (try have ha25 : w.heap.size + 2 < w5.heap.size := by omega); (try have hal5 : w.heap.size ≤ w5.heap.size := by omega); (try have ham5 : w.heap.size < w5.heap.size + 2 := by omega); (try have hb05 : wr.heap.size < w5.heap.size := by omega); (try have hb15 : wr.heap.size + 1 < w5.heap.size := by omega); (try have hb25 : wr.heap.size + 2 < w5.heap.size := by omega); (try have hbl5 : wr.heap.size ≤ w5.heap.size := by omega); (try have hbm5 : wr.heap.size < w5.heap.size + 2 := by omega)); have lB5 : B < w5.heap.size := (by omega); have lW5 : w.heap.size < w5.heap.size := (by omega); have lB6 : B < w5.heap.size + 1 := (by omega); have lW6 : w.heap.size < w5.heap.size + 1 := (by omega); have lR6 : wr.heap.size < w5.heap.size + 1 := (by omega))
            go_ret
            go_light
            exact ⟨rfl, by (repeat' (first | (with_reducible exact Below.refl _ _) | (with_reducible assumption) | (with_reducible refine Below.trans ?_ (Below.mono (by with_reducible assumption) ?_)) | (with_reducible refine Below.alloc ?_ ?_ _) | (with_reducible refine Below.setCell ?_ ?_ _) | (with_reducible refine below_drewN ?_ _) | (with_reducible refine Below.drew ?_) | go_size))⟩
          · by_cases r2 : 1000 < a1
            · have r1' : 0 ≤ a1 := by omega
              clear hbad hq r hf r1
              go_wp2_with ((go_at_call 32; refine (HD.out _).mono ?_; rintro e w5 ⟨rfl, hb5⟩; obtain ⟨hc5, hf5⟩ := bcell hb5; have hz5 := hb5.size; (try simp only [World.size_alloc, World.size_setCell, World.heap_drewN] at hb5 hc5 hf5 hz5); (try have ha05 : w.heap.size < w5.heap.size := by omega); (try have ha15 : w.heap.size + 1 < w5.heap.size := by omega); (try have ha25 : w.heap.size + 2 < w5.heap.size := by omega); (try have hal5 : w.heap.size ≤ w5.heap.size := by omega); (try have ham5 : w.heap.size < w5.heap.size + 2 := by omega); (try have hb05 : wr.heap.size < w5.heap.size := by omega); (try have hb15 : wr.heap.size + 1 < w5.heap.size := by omega); (try have hb25 : wr.heap.size + 2 < w5.heap.size := by omega); (try have hbl5 : wr.heap.size ≤ w5.heap.size := by omega); (try have hbm5 : wr.heap.size < w5.heap.size + 2 := by omega)); have lB5 : B < w5.heap.size := (by omega); have lW5 : w.heap.size < w5.heap.size := (by omega); have lB6 : B < w5.heap.size + 1 := (by omega); have lW6 : w.heap.size < w5.heap.size + 1 := (by omega); have lR6 : wr.heap.size < w5.heap.size + 1 := (by omega))
              go_ret
              go_light
              exact ⟨rfl, by (repeat' (first | (with_reducible exact Below.refl _ _) | (with_reducible assumption) | (with_reducible refine Below.trans ?_ (Below.mono (by with_reducible assumption) ?_)) | (with_reducible refine Below.alloc ?_ ?_ _) | (with_reducible refine Below.setCell ?_ ?_ _) | (with_reducible refine below_drewN ?_ _) | (with_reducible refine Below.drew ?_) | go_size))⟩
            · have r1' : 0 ≤ a1 := by omega
              have r2' : a1 ≤ 1000 := by omega
              have h0 : k ≠ 0 := fun h => hbad ⟨by omega, by omega, by omega, by omega, .inl h⟩
              obtain ⟨c2, c3, q2, q3⟩ := hq h0
              have e0 : ((k : Int) == 0) = false := by simp; omega
              have k1 : (1 : Int) ≤ (k : Int) := by omega
              have k2 : (k : Int) - 1 < (n : Int) := by omega
              have k3 : (0 : Int) ≤ (k : Int) - 1 := by omega
              by_cases r3 : a0 ≤ b0
              · clear hbad hq r hf r1 r2 h0
                go_wp2_with ((go_at_call 32; refine (HD.out _).mono ?_; rintro e w5 ⟨rfl, hb5⟩; obtain ⟨hc5, hf5⟩ := bcell hb5; have hz5 := hb5.size; (try simp only [World.size_alloc, World.size_setCell, World.heap_drewN] at hb5 hc5 hf5 hz5); (try have ha05 : w.heap.size < w5.heap.size := by omega); (try have ha15 : w.heap.size + 1 < w5.heap.size := by omega); (try have ha25 : w.heap.size + 2 < w5.heap.size := by omega); (try have hal5 : w.heap.size ≤ w5.heap.size := by omega); (try have ham5 : w.heap.size < w5.heap.size + 2 := by omega); (try have hb05 : wr.heap.size < w5.heap.size := by omega); (try have hb15 : wr.heap.size + 1 < w5.heap.size := by omega); (try have hb25 : wr.heap.size + 2 < w5.heap.size := by omega); (try have hbl5 : wr.heap.size ≤ w5.heap.size := by omega); (try have hbm5 : wr.heap.size < w5.heap.size + 2 := by omega)); have lB5 : B < w5.heap.size := (by omega); have lW5 : w.heap.size < w5.heap.size := (by omega); have lB6 : B < w5.heap.size + 1 := (by omega); have lW6 : w.heap.size < w5.heap.size + 1 := (by omega); have lR6 : wr.heap.size < w5.heap.size + 1 := (by omega))
                go_ret
                go_light
                exact ⟨rfl, by (repeat' (first | (with_reducible exact Below.refl _ _) | (with_reducible assumption) | (with_reducible refine Below.trans ?_ (Below.mono (by with_reducible assumption) ?_)) | (with_reducible refine Below.alloc ?_ ?_ _) | (with_reducible refine Below.setCell ?_ ?_ _) | (with_reducible refine below_drewN ?_ _) | (with_reducible refine Below.drew ?_) | go_size))⟩
              · have r3' : b0 < a0 := by omega
                by_cases r4 : d = 1
                · have s1 : (a1 - b1 != 1) = true := by
                    simp
                    intro h
                    exact hbad ⟨by omega, by omega, by omega, by omega, .inr ⟨by omega, hf.2 r4, .inl h⟩⟩
                  have s2 : (a1 - b1 != -1) = true := by
                    simp
                    intro h
                    exact hbad ⟨by omega, by omega, by omega, by omega, .inr ⟨by omega, hf.2 r4, .inr h⟩⟩
                  have dd : (d != 1) = false := by simp; exact r4
                  clear hbad hq r hf r1 r2 h0 r3 r4
                  go_wp2_with ((go_at_call 32; refine (HD.out _).mono ?_; rintro e w5 ⟨rfl, hb5⟩; obtain ⟨hc5, hf5⟩ := bcell hb5; have hz5 := hb5.size; (try simp only [World.size_alloc, World.size_setCell, World.heap_drewN] at hb5 hc5 hf5 hz5); (try have ha05 : w.heap.size < w5.heap.size := by omega); (try have ha15 : w.heap.size + 1 < w5.heap.size := by omega); (try have ha25 : w.heap.size + 2 < w5.heap.size := by omega); (try have hal5 : w.heap.size ≤ w5.heap.size := by omega); (try have ham5 : w.heap.size < w5.heap.size + 2 := by omega); (try have hb05 : wr.heap.size < w5.heap.size := by omega); (try have hb15 : wr.heap.size + 1 < w5.heap.size := by omega); (try have hb25 : wr.heap.size + 2 < w5.heap.size := by omega); (try have hbl5 : wr.heap.size ≤ w5.heap.size := by omega); (try have hbm5 : wr.heap.size < w5.heap.size + 2 := by omega)); have lB5 : B < w5.heap.size := (by omega); have lW5 : w.heap.size < w5.heap.size := (by omega); have lB6 : B < w5.heap.size + 1 := (by omega); have lW6 : w.heap.size < w5.heap.size + 1 := (by omega); have lR6 : wr.heap.size < w5.heap.size + 1 := (by omega))
                  go_ret
                  go_light
                  exact ⟨rfl, by (repeat' (first | (with_reducible exact Below.refl _ _) | (with_reducible assumption) | (with_reducible refine Below.trans ?_ (Below.mono (by with_reducible assumption) ?_)) | (with_reducible refine Below.alloc ?_ ?_ _) | (with_reducible refine Below.setCell ?_ ?_ _) | (with_reducible refine below_drewN ?_ _) | (with_reducible refine Below.drew ?_) | go_size))⟩
                · have dd : (d != 1) = true := by simp; exact r4
                  clear hbad hq r hf r1 r2 h0 r3 r4
                  go_wp2_with ((go_at_call 32; refine (HD.out _).mono ?_; rintro e w5 ⟨rfl, hb5⟩; obtain ⟨hc5, hf5⟩ := bcell hb5; have hz5 := hb5.size; (try simp only [World.size_alloc, World.size_setCell, World.heap_drewN] at hb5 hc5 hf5 hz5); (try have ha05 : w.heap.size < w5.heap.size := by omega); (try have ha15 : w.heap.size + 1 < w5.heap.size := by omega); (try have ha25 : w.heap.size + 2 < w5.heap.size := by omega); (try have hal5 : w.heap.size ≤ w5.heap.size := by omega); (try have ham5 : w.heap.size < w5.heap.size + 2 := by omega); (try have hb05 : wr.heap.size < w5.heap.size := by omega); (try have hb15 : wr.heap.size + 1 < w5.heap.size := by omega); (try have hb25 : wr.heap.size + 2 < w5.heap.size := by omega); (try have hbl5 : wr.heap.size ≤ w5.heap.size := by omega); (try have hbm5 : wr.heap.size < w5.heap.size + 2 := by omega)); have lB5 : B < w5.heap.size := (by omega); have lW5 : w.heap.size < w5.heap.size := (by omega); have lB6 : B < w5.heap.size + 1 := (by omega); have lW6 : w.heap.size < w5.heap.size + 1 := (by omega); have lR6 : wr.heap.size < w5.heap.size + 1 := (by omega))
                  go_ret
                  go_light
                  exact ⟨rfl, by (repeat' (first | (with_reducible exact Below.refl _ _) | (with_reducible assumption) | (with_reducible refine Below.trans ?_ (Below.mono (by with_reducible assumption) ?_)) | (with_reducible refine Below.alloc ?_ ?_ _) | (with_reducible refine Below.setCell ?_ ?_ _) | (with_reducible refine below_drewN ?_ _) | (with_reducible refine Below.drew ?_) | go_size))⟩
    · obtain rfl : k = n := by omega
      obtain ⟨B, O, rfl, hB, hcells⟩ := HZ.out (by omega)
      have lB : B < wr.heap.size := Nat.lt_of_lt_of_le hB HB.size
      have c2 : wr.cell? ⟨B, O + (k - 1) * 2, none⟩ = some (.int .i64 (z ((k - 1) * 2))) := (HB.cell (p := ⟨B, O + (k - 1) * 2, none⟩) hB).trans (hcells ((k - 1) * 2) (by omega)).1
      have hx : ¬ (-719162 ≤ x ∧ x ≤ 2932896 ∧ z ((k - 1) * 2) < x) := fun h => HT.out ⟨n1, n100, HL.out, h.1, h.2.1, h.2.2⟩
      generalize z ((k - 1) * 2) = b0 at *
      clear hcells
      have k1 : (1 : Int) ≤ (k : Int) := by omega
      have k2 : (k : Int) - 1 < (k : Int) := by omega
      have k3 : (0 : Int) ≤ (k : Int) - 1 := by omega
      by_cases r : x < -719162 ∨ 2932896 < x
      · have HDX := Lib.hid fun w : World => cal_date_no x w r
        clear hx r
        go_wp2_with fail
        refine (HDX.out _).mono ?_; rintro e w5 ⟨rfl, hb5⟩
        have HB5 : Below w.heap.size w w5 := HB.trans (hb5.mono (by omega))
        have z5 := HB5.size
        clear hb5 t0 t1 c2
        go_wp2
        go_quiet (fail)
        go_wp2
        go_ret
        go_light
        exact ⟨rfl, by (repeat' (first | (with_reducible exact Below.refl _ _) | (with_reducible assumption) | (with_reducible refine Below.trans ?_ (Below.mono (by with_reducible assumption) ?_)) | (with_reducible refine Below.alloc ?_ ?_ _) | (with_reducible refine Below.setCell ?_ ?_ _) | (with_reducible refine below_drewN ?_ _) | (with_reducible refine Below.drew ?_) | go_size))⟩
      · obtain ⟨yx, mx, dx, _, _, _, hdx⟩ := cal_date_some x (by omega) (by omega)
        have HDX := Lib.hid hdx
        have hxb : x ≤ b0 := by omega
        have hxd : decide (b0 < x) = false := by simpa using hxb
        clear hdx hx r
        go_wp2_with fail
        refine (HDX.out _).mono ?_; rintro e w5 ⟨rfl, hb5⟩
        have q0 : w5.cell? ⟨w.heap.size, 0, none⟩ = some (.slice (some ⟨B, O, none⟩) k c) := (hb5.cell (p := ⟨w.heap.size, 0, none⟩) lr).trans t0
        have q1 : w5.cell? ⟨w.heap.size, 1, none⟩ = some (.int .i64 x) := (hb5.cell (p := ⟨w.heap.size, 1, none⟩) lr).trans t1
        have q2 : w5.cell? ⟨B, O + (k - 1) * 2, none⟩ = some (.int .i64 b0) := (hb5.cell (p := ⟨B, O + (k - 1) * 2, none⟩) lB).trans c2
        have lW5 : w.heap.size < w5.heap.size := Nat.lt_of_lt_of_le lr hb5.size
        have lB5 : B < w5.heap.size := Nat.lt_of_lt_of_le lB hb5.size
        have HB5 : Below w.heap.size w w5 := HB.trans (hb5.mono (by omega))
        have z5 := HB5.size
        clear hb5 t0 t1 c2
        go_wp2
        go_quiet (fail)
        go_wp2
        go_ret
        go_light
        exact ⟨rfl, by (repeat' (first | (with_reducible exact Below.refl _ _) | (with_reducible assumption) | (with_reducible refine Below.trans ?_ (Below.mono (by with_reducible assumption) ?_)) | (with_reducible refine Below.alloc ?_ ?_ _) | (with_reducible refine Below.setCell ?_ ?_ _) | (with_reducible refine below_drewN ?_ _) | (with_reducible refine Below.drew ?_) | go_size))⟩
end Go.Proofs.Ytklahiogcpojmaa
