/- Tables of leaps: what is one; leap.Is. -/
import Derived.Test.YtklahiogcpojmaaCalDate
import Derived.Test.YtklahiogcpojmaaArgFlat
import Derived.Test.YtklahiogcpojmaaInts2
set_option linter.unusedSimpArgs false
set_option linter.unusedVariables false
namespace Go.Proofs.Ytklahiogcpojmaa
open Go.RowKit

/-- A day that is the first one of a month. -/
def First (n : Int) : Prop := ∃ y m : Int, Cal.Vld y m 1 ∧ Cal.num y m 1 = n
theorem first_iff {y m d n : Int} (hv : Cal.Vld y m d) (hn : n = Cal.num y m d) : First n ↔ d = 1 := by
  constructor
  · rintro ⟨y', m', hv', hn'⟩
    exact (Cal.num_inj hv hv' (hn ▸ hn'.symm)).2.2
  · rintro rfl
    exact ⟨y, m, hv, hn.symm⟩
/-- May the k-th leap stand there? -/
def LeapOk (z : Nat → Int) (k : Nat) : Prop :=
  -719162 ≤ z (k * 2) ∧ z (k * 2) ≤ 2932896 ∧ 0 ≤ z (k * 2 + 1) ∧ z (k * 2 + 1) ≤ 1000 ∧
  (k = 0 ∨ (z ((k - 1) * 2) < z (k * 2) ∧ First (z (k * 2)) ∧ (z (k * 2 + 1) - z ((k - 1) * 2 + 1) = 1 ∨ z (k * 2 + 1) - z ((k - 1) * 2 + 1) = -1)))
/-- Is it a table? -/
def IsTab (z : Nat → Int) (n : Nat) (x : Int) : Prop := 1 ≤ n ∧ n ≤ 100 ∧ (∀ k, k < n → LeapOk z k) ∧ -719162 ≤ x ∧ x ≤ 2932896 ∧ z ((n - 1) * 2) < x
theorem cal_date_some (n : Int) (h0 : -719162 ≤ n) (h1 : n ≤ 2932896) : ∃ y m d : Int, (First n ↔ d = 1) ∧ 1 ≤ d ∧ d ≤ 31 ∧ ∀ w : World, Calls Try.prog 32 #[.int .i64 n] w fun e w' => e = .returned (.tuple #[.agg #[.int .i64 y, .int .i64 m, .int .i64 d], .int .i64 0]) ∧ Below w.heap.size w w' := by
  obtain ⟨y, m, d, hv, hn⟩ := Cal.date_ex n h0 h1
  have hd := Cal.dim_bd y m
  exact ⟨y, m, d, first_iff hv hn.symm, hv.2.2.2.2.1, by have := hv.2.2.2.2.2; omega, fun w => cal_date_yes y m d n w hv hn.symm⟩
set_option maxRecDepth 100000 in
set_option maxHeartbeats 8000000 in
theorem leap_is_yes (A : Option Addr) (n c : Nat) (x : Int) (z : Nat → Int) (w : World) (hz : FlatAt w A 2 n z) (ht : IsTab z n x) :
    Calls Try.prog 31 #[.agg #[.slice A n c, .int .i64 x]] w fun e w' => e = .returned (.bool true) ∧ Below w.heap.size w w' := by
  obtain ⟨n1, n100, hl, x0, x1, hx⟩ := ht
  have HZ := Lib.hid hz
  have HL := Lib.hid hl
  have HX := Lib.hid hx
  obtain ⟨yx, mx, dx, _, _, _, hdx⟩ := cal_date_some x x0 x1
  have HDX := Lib.hid hdx
  clear hz hl hx hdx
  have n1' : (1 : Int) ≤ (n : Int) := by omega
  have n100' : (n : Int) ≤ 100 := by omega
  have HB0 : Below w.heap.size w (w.alloc (.cells #[.slice A n c, .int .i64 x] 30)) := by (repeat' (first | (with_reducible exact Below.refl _ _) | (with_reducible assumption) | (with_reducible refine Below.trans ?_ (Below.mono (by with_reducible assumption) ?_)) | (with_reducible refine Below.alloc ?_ ?_ _) | (with_reducible refine Below.setCell ?_ ?_ _) | (with_reducible refine below_drewN ?_ _) | (with_reducible refine Below.drew ?_) | go_size))
  go_enter Try.func31, Try.ntmps31
  go_wp2_with fail
  go_loopw [24] (fun i wr => ∃ k : Nat, k ≤ n ∧ i = .int .i64 k ∧ wr.cell? ⟨w.heap.size, 0, none⟩ = some (.slice A n c) ∧ wr.cell? ⟨w.heap.size, 1, none⟩ = some (.int .i64 x) ∧ w.heap.size < wr.heap.size ∧ Below w.heap.size w wr) (fun i _ => n - (intOf i).toNat)
  case atStart => exact ⟨0, Nat.zero_le _, rfl, by simp, by simp, by simp, HB0⟩
  case round =>
    obtain ⟨k, hk, rfl, t0, t1, lr, HB⟩ := hrel
    clear HB0
    by_cases hlt : k < n
    · obtain ⟨B, O, rfl, hB, hcells⟩ := HZ.out (by omega)
      have lB : B < wr.heap.size := Nat.lt_of_lt_of_le hB HB.size
      have nB : B ≠ wr.heap.size := by omega
      have nW : w.heap.size ≠ wr.heap.size := by omega
      have lB1 : B < wr.heap.size + 1 := by omega
      have lW1 : w.heap.size < wr.heap.size + 1 := by omega
      have lk : (k : Int) < (n : Int) := by omega
      have c0 : wr.cell? ⟨B, O + k * 2, none⟩ = some (.int .i64 (z (k * 2))) := (HB.cell (p := ⟨B, O + k * 2, none⟩) hB).trans (hcells (k * 2) (by omega)).1
      have c1 : wr.cell? ⟨B, O + k * 2 + 1, none⟩ = some (.int .i64 (z (k * 2 + 1))) := (HB.cell (p := ⟨B, O + (k * 2 + 1), none⟩) hB).trans (hcells (k * 2 + 1) (by omega)).1
      obtain ⟨g0, g1, g2, g3, g4⟩ := HL.out k hlt
      obtain ⟨y, m, d, hf, d0, d1, hd⟩ := cal_date_some _ g0 g1
      have HD := Lib.hid hd
      clear hd
      generalize z (k * 2) = a0 at *
      generalize z (k * 2 + 1) = a1 at *
      by_cases h0 : k = 0
      · have e0 : ((k : Int) == 0) = true := by simp [h0]
        clear g4 h0 hcells
        go_wp2_with ((go_at_call 32; refine (HD.out _).mono ?_; rintro e w5 ⟨rfl, hb5⟩; obtain ⟨hc5, hf5⟩ := bcell hb5; have hz5 := hb5.size; (try simp only [World.size_alloc, World.size_setCell, World.heap_drewN] at hb5 hc5 hf5 hz5); (try have ha05 : w.heap.size < w5.heap.size := by omega); (try have ha15 : w.heap.size + 1 < w5.heap.size := by omega); (try have ha25 : w.heap.size + 2 < w5.heap.size := by omega); (try have hal5 : w.heap.size ≤ w5.heap.size := by omega); (try have ham5 : w.heap.size < w5.heap.size + 2 := by omega); (try have hb05 : wr.heap.size < w5.heap.size := by omega); (try have hb15 : wr.heap.size + 1 < w5.heap.size := by omega); (try have hb25 : wr.heap.size + 2 < w5.heap.size := by omega); (try have hbl5 : wr.heap.size ≤ w5.heap.size := by omega); (try have hbm5 : wr.heap.size < w5.heap.size + 2 := by omega)); have lB5 : B < w5.heap.size := (by omega); have lW5 : w.heap.size < w5.heap.size := (by omega); have lB6 : B < w5.heap.size + 1 := (by omega); have lW6 : w.heap.size < w5.heap.size + 1 := (by omega); have lR6 : wr.heap.size < w5.heap.size + 1 := (by omega))
        go_roundw
        case rel =>
          refine ⟨k + 1, by omega, by go_num, ?_, ?_, by simp; omega, by (repeat' (first | (with_reducible exact Below.refl _ _) | (with_reducible assumption) | (with_reducible refine Below.trans ?_ (Below.mono (by with_reducible assumption) ?_)) | (with_reducible refine Below.alloc ?_ ?_ _) | (with_reducible refine Below.setCell ?_ ?_ _) | (with_reducible refine below_drewN ?_ _) | (with_reducible refine Below.drew ?_) | go_size))⟩
          · rw [World.cell?_alloc_past _ _ _ lW5, hc5 _ _ lW1, World.cell?_alloc_past _ _ _ lr]; exact t0
          · rw [World.cell?_alloc_past _ _ _ lW5, hc5 _ _ lW1, World.cell?_alloc_past _ _ _ lr]; exact t1
        case measure => simp [intOf]; omega
      · have e0 : ((k : Int) == 0) = false := by simp; omega
        have g4' := g4.resolve_left h0
        obtain ⟨g5, g6, g7⟩ := g4'
        obtain ⟨_, _, q2, q3, _⟩ := HL.out (k - 1) (by omega)
        have c2 : wr.cell? ⟨B, O + (k - 1) * 2, none⟩ = some (.int .i64 (z ((k - 1) * 2))) := (HB.cell (p := ⟨B, O + (k - 1) * 2, none⟩) hB).trans (hcells ((k - 1) * 2) (by omega)).1
        have c3 : wr.cell? ⟨B, O + (k - 1) * 2 + 1, none⟩ = some (.int .i64 (z ((k - 1) * 2 + 1))) := (HB.cell (p := ⟨B, O + ((k - 1) * 2 + 1), none⟩) hB).trans (hcells ((k - 1) * 2 + 1) (by omega)).1
        have d1 : (d != 1) = false := by simp; exact hf.1 g6
        have k1 : (1 : Int) ≤ (k : Int) := by omega
        have k2 : (k : Int) - 1 < (n : Int) := by omega
        have k3 : (0 : Int) ≤ (k : Int) - 1 := by omega
        generalize z ((k - 1) * 2) = b0 at *
        generalize z ((k - 1) * 2 + 1) = b1 at *
        clear g4 h0 hcells g6 hf
        rcases g7 with g7 | g7
        · have s1 : (a1 - b1 != 1) = false := by simp; omega
          clear g7
          go_wp2_with ((go_at_call 32; refine (HD.out _).mono ?_; rintro e w5 ⟨rfl, hb5⟩; obtain ⟨hc5, hf5⟩ := bcell hb5; have hz5 := hb5.size; (try simp only [World.size_alloc, World.size_setCell, World.heap_drewN] at hb5 hc5 hf5 hz5); (try have ha05 : w.heap.size < w5.heap.size := by omega); (try have ha15 : w.heap.size + 1 < w5.heap.size := by omega); (try have ha25 : w.heap.size + 2 < w5.heap.size := by omega); (try have hal5 : w.heap.size ≤ w5.heap.size := by omega); (try have ham5 : w.heap.size < w5.heap.size + 2 := by omega); (try have hb05 : wr.heap.size < w5.heap.size := by omega); (try have hb15 : wr.heap.size + 1 < w5.heap.size := by omega); (try have hb25 : wr.heap.size + 2 < w5.heap.size := by omega); (try have hbl5 : wr.heap.size ≤ w5.heap.size := by omega); (try have hbm5 : wr.heap.size < w5.heap.size + 2 := by omega)); have lB5 : B < w5.heap.size := (by omega); have lW5 : w.heap.size < w5.heap.size := (by omega); have lB6 : B < w5.heap.size + 1 := (by omega); have lW6 : w.heap.size < w5.heap.size + 1 := (by omega); have lR6 : wr.heap.size < w5.heap.size + 1 := (by omega))
          go_roundw
          case rel =>
            refine ⟨k + 1, by omega, by go_num, ?_, ?_, by simp; omega, by (repeat' (first | (with_reducible exact Below.refl _ _) | (with_reducible assumption) | (with_reducible refine Below.trans ?_ (Below.mono (by with_reducible assumption) ?_)) | (with_reducible refine Below.alloc ?_ ?_ _) | (with_reducible refine Below.setCell ?_ ?_ _) | (with_reducible refine below_drewN ?_ _) | (with_reducible refine Below.drew ?_) | go_size))⟩
            · rw [World.cell?_alloc_past _ _ _ (by simp; omega), World.cell?_alloc_past _ _ _ lW5, hc5 _ _ lW1, World.cell?_alloc_past _ _ _ lr]; exact t0
            · rw [World.cell?_alloc_past _ _ _ (by simp; omega), World.cell?_alloc_past _ _ _ lW5, hc5 _ _ lW1, World.cell?_alloc_past _ _ _ lr]; exact t1
          case measure => simp [intOf]; omega
        · have s1 : (a1 - b1 != 1) = true := by simp; omega
          have s2 : (a1 - b1 != -1) = false := by simp; omega
          clear g7
          go_wp2_with ((go_at_call 32; refine (HD.out _).mono ?_; rintro e w5 ⟨rfl, hb5⟩; obtain ⟨hc5, hf5⟩ := bcell hb5; have hz5 := hb5.size; (try simp only [World.size_alloc, World.size_setCell, World.heap_drewN] at hb5 hc5 hf5 hz5); (try have ha05 : w.heap.size < w5.heap.size := by omega); (try have ha15 : w.heap.size + 1 < w5.heap.size := by omega); (try have ha25 : w.heap.size + 2 < w5.heap.size := by omega); (try have hal5 : w.heap.size ≤ w5.heap.size := by omega); (try have ham5 : w.heap.size < w5.heap.size + 2 := by omega); (try have hb05 : wr.heap.size < w5.heap.size := by omega); (try have hb15 : wr.heap.size + 1 < w5.heap.size := by omega); (try have hb25 : wr.heap.size + 2 < w5.heap.size := by omega); (try have hbl5 : wr.heap.size ≤ w5.heap.size := by omega); (try have hbm5 : wr.heap.size < w5.heap.size + 2 := by omega)); have lB5 : B < w5.heap.size := (by omega); have lW5 : w.heap.size < w5.heap.size := (by omega); have lB6 : B < w5.heap.size + 1 := (by omega); have lW6 : w.heap.size < w5.heap.size + 1 := (by omega); have lR6 : wr.heap.size < w5.heap.size + 1 := (by omega))
          go_roundw
          case rel =>
            refine ⟨k + 1, by omega, by go_num, ?_, ?_, by simp; omega, by (repeat' (first | (with_reducible exact Below.refl _ _) | (with_reducible assumption) | (with_reducible refine Below.trans ?_ (Below.mono (by with_reducible assumption) ?_)) | (with_reducible refine Below.alloc ?_ ?_ _) | (with_reducible refine Below.setCell ?_ ?_ _) | (with_reducible refine below_drewN ?_ _) | (with_reducible refine Below.drew ?_) | go_size))⟩
            · rw [World.cell?_alloc_past _ _ _ (by simp; omega), World.cell?_alloc_past _ _ _ lW5, hc5 _ _ lW1, World.cell?_alloc_past _ _ _ lr]; exact t0
            · rw [World.cell?_alloc_past _ _ _ (by simp; omega), World.cell?_alloc_past _ _ _ lW5, hc5 _ _ lW1, World.cell?_alloc_past _ _ _ lr]; exact t1
          case measure => simp [intOf]; omega
    · obtain rfl : k = n := by omega
      obtain ⟨B, O, rfl, hB, hcells⟩ := HZ.out (by omega)
      have lB : B < wr.heap.size := Nat.lt_of_lt_of_le hB HB.size
      have c2 : wr.cell? ⟨B, O + (k - 1) * 2, none⟩ = some (.int .i64 (z ((k - 1) * 2))) := (HB.cell (p := ⟨B, O + (k - 1) * 2, none⟩) hB).trans (hcells ((k - 1) * 2) (by omega)).1
      have hx := HX.out
      generalize z ((k - 1) * 2) = b0 at *
      clear hcells
      go_wp2_with fail
      refine (HDX.out _).mono ?_; rintro e w5 ⟨rfl, hb5⟩
      have q0 : w5.cell? ⟨w.heap.size, 0, none⟩ = some (.slice (some ⟨B, O, none⟩) k c) := (hb5.cell (p := ⟨w.heap.size, 0, none⟩) lr).trans t0
      have q1 : w5.cell? ⟨w.heap.size, 1, none⟩ = some (.int .i64 x) := (hb5.cell (p := ⟨w.heap.size, 1, none⟩) lr).trans t1
      have q2 : w5.cell? ⟨B, O + (k - 1) * 2, none⟩ = some (.int .i64 b0) := (hb5.cell (p := ⟨B, O + (k - 1) * 2, none⟩) lB).trans c2
      have lW5 : w.heap.size < w5.heap.size := Nat.lt_of_lt_of_le lr hb5.size
      have lB5 : B < w5.heap.size := Nat.lt_of_lt_of_le lB hb5.size
      have HB5 : Below w.heap.size w w5 := HB.trans (hb5.mono (by omega))
      have k1 : (1 : Int) ≤ (k : Int) := by omega
      have k2 : (k : Int) - 1 < (k : Int) := by omega
      have k3 : (0 : Int) ≤ (k : Int) - 1 := by omega
      clear hb5 t0 t1 c2
      go_wp2
      go_quiet (fail)
      go_wp2
      go_ret
      go_light
      exact ⟨rfl, by (repeat' (first | (with_reducible exact Below.refl _ _) | (with_reducible assumption) | (with_reducible refine Below.trans ?_ (Below.mono (by with_reducible assumption) ?_)) | (with_reducible refine Below.alloc ?_ ?_ _) | (with_reducible refine Below.setCell ?_ ?_ _) | (with_reducible refine below_drewN ?_ _) | (with_reducible refine Below.drew ?_) | go_size))⟩
end Go.Proofs.Ytklahiogcpojmaa
