/- Offsets from day to day. -/
import Derived.Test.YtepdnkpmkhjlgaaGreatM9A
import Derived.Test.YtepdnkpmkhjlgaaGreatArgFlat
import Derived.Test.YtepdnkpmkhjlgaaGreatInts2
import Derived.Test.YtepdnkpmkhjlgaaGreatCells
/- Tables of leaps: what is one; leap.Is. -/
set_option linter.unusedSimpArgs false
set_option linter.unusedVariables false
namespace Go.Proofs.YtepdnkpmkhjlgaaGreat
open Go.RowKit

/-- A day that is the first one of a month. -/
def First (n : Int) : Prop := ∃ y m : Int, Cal.Vld y m 1 ∧ Cal.num y m 1 = n
theorem first_iff {y m d n : Int} (hv : Cal.Vld y m d) (hn : n = Cal.num y m d) : First n ↔ d = 1 := by
  constructor
  · rintro ⟨y', m', hv', hn'⟩
    exact (Cal.num_inj hv hv' (hn ▸ hn'.symm)).2.2
  · rintro rfl
    exact ⟨y, m, hv, hn.symm⟩
/-- May the k-th leap stand there? -/
def LeapOk (z : Nat → Int) (k : Nat) : Prop :=
  -719162 ≤ z (k * 2) ∧ z (k * 2) ≤ 2932896 ∧ 0 ≤ z (k * 2 + 1) ∧ z (k * 2 + 1) ≤ 1000 ∧
  (k = 0 ∨ (z ((k - 1) * 2) < z (k * 2) ∧ First (z (k * 2)) ∧ (z (k * 2 + 1) - z ((k - 1) * 2 + 1) = 1 ∨ z (k * 2 + 1) - z ((k - 1) * 2 + 1) = -1)))
/-- Is it a table? -/
def IsTab (z : Nat → Int) (n : Nat) (x : Int) : Prop := 1 ≤ n ∧ n ≤ 100 ∧ (∀ k, k < n → LeapOk z k) ∧ -719162 ≤ x ∧ x ≤ 2932896 ∧ z ((n - 1) * 2) < x
theorem cal_date_some (n : Int) (h0 : -719162 ≤ n) (h1 : n ≤ 2932896) : ∃ y m d : Int, (First n ↔ d = 1) ∧ 1 ≤ d ∧ d ≤ 31 ∧ ∀ w : World, Calls Tryz.prog 78 #[.int .i64 n] w fun e w' => e = .returned (.tuple #[.agg #[.int .i64 y, .int .i64 m, .int .i64 d], .int .i64 0]) ∧ Below w.heap.size w w' := by
  obtain ⟨y, m, d, hv, hn⟩ := Cal.date_ex n h0 h1
  have hd := Cal.dim_bd y m
  exact ⟨y, m, d, first_iff hv hn.symm, hv.2.2.2.2.1, by have := hv.2.2.2.2.2; omega, fun w => cal_date_yes y m d n w hv hn.symm⟩
set_option maxRecDepth 100000 in
set_option maxHeartbeats 8000000 in
theorem leap_is_yes (A : Option Addr) (n c : Nat) (x : Int) (z : Nat → Int) (w : World) (hz : FlatAt w A 2 n z) (ht : IsTab z n x) :
    Calls Tryz.prog 53 #[.agg #[.slice A n c, .int .i64 x]] w fun e w' => e = .returned (.bool true) ∧ Below w.heap.size w w' := by
  obtain ⟨n1, n100, hl, x0, x1, hx⟩ := ht
  have HZ := Lib.hid hz
  have HL := Lib.hid hl
  have HX := Lib.hid hx
  obtain ⟨yx, mx, dx, _, _, _, hdx⟩ := cal_date_some x x0 x1
  have HDX := Lib.hid hdx
  clear hz hl hx hdx
  have n1' : (1 : Int) ≤ (n : Int) := by omega
  have n100' : (n : Int) ≤ 100 := by omega
  have HB0 : Below w.heap.size w (w.alloc (.cells #[.slice A n c, .int .i64 x] 24)) := by (repeat' (first | (with_reducible exact Below.refl _ _) | (with_reducible assumption) | (with_reducible refine Below.trans ?_ (Below.mono (by with_reducible assumption) ?_)) | (with_reducible refine Below.alloc ?_ ?_ _) | (with_reducible refine Below.setCell ?_ ?_ _) | (with_reducible refine below_drewN ?_ _) | (with_reducible refine Below.drew ?_) | go_size))
  go_enter Tryz.func53, Tryz.ntmps53
  go_wp2_with fail
  go_loopw [24] (fun i wr => ∃ k : Nat, k ≤ n ∧ i = .int .i64 k ∧ wr.cell? ⟨w.heap.size, 0, none⟩ = some (.slice A n c) ∧ wr.cell? ⟨w.heap.size, 1, none⟩ = some (.int .i64 x) ∧ w.heap.size < wr.heap.size ∧ Below w.heap.size w wr) (fun i _ => n - (intOf i).toNat)
  case atStart => exact ⟨0, Nat.zero_le _, rfl, by simp, by simp, by simp, HB0⟩
  case round =>
    obtain ⟨k, hk, rfl, t0, t1, lr, HB⟩ := hrel
    clear HB0
    by_cases hlt : k < n
    · obtain ⟨B, O, rfl, hB, hcells⟩ := HZ.out (by omega)
      have lB : B < wr.heap.size := Nat.lt_of_lt_of_le hB HB.size
      have nB : B ≠ wr.heap.size := by omega
      have nW : w.heap.size ≠ wr.heap.size := by omega
      have lB1 : B < wr.heap.size + 1 := by omega
      have lW1 : w.heap.size < wr.heap.size + 1 := by omega
      have lk : (k : Int) < (n : Int) := by omega
      have c0 : wr.cell? ⟨B, O + k * 2, none⟩ = some (.int .i64 (z (k * 2))) := (HB.cell (p := ⟨B, O + k * 2, none⟩) hB).trans (hcells (k * 2) (by omega)).1
      have c1 : wr.cell? ⟨B, O + k * 2 + 1, none⟩ = some (.int .i64 (z (k * 2 + 1))) := (HB.cell (p := ⟨B, O + (k * 2 + 1), none⟩) hB).trans (hcells (k * 2 + 1) (by omega)).1
      obtain ⟨g0, g1, g2, g3, g4⟩ := HL.out k hlt
      obtain ⟨y, m, d, hf, d0, d1, hd⟩ := cal_date_some _ g0 g1
      have HD := Lib.hid hd
      clear hd
      generalize z (k * 2) = a0 at *
      generalize z (k * 2 + 1) = a1 at *
      by_cases h0 : k = 0
      · have e0 : ((k : Int) == 0) = true := by simp [h0]
        clear g4 h0 hcells
        go_wp2_with ((go_at_call 78; refine (HD.out _).mono ?_; rintro e w5 ⟨rfl, hb5⟩; obtain ⟨hc5, hf5⟩ := bcell hb5; have hz5 := hb5.size; (try simp only [World.size_alloc, World.size_setCell, World.heap_drewN] at hb5 hc5 hf5 hz5); (try have ha05 : w.heap.size < w5.heap.size := by omega); (try have ha15 : w.heap.size + 1 < w5.heap.size := by omega); (try have ha25 : w.heap.size + 2 < w5.heap.size := by omega); (try have hal5 : w.heap.size ≤ w5.heap.size := by omega); (try have ham5 : w.heap.size < w5.heap.size + 2 := by omega); (try have hb05 : wr.heap.size < w5.heap.size := by omega); (try have hb15 : wr.heap.size + 1 < w5.heap.size := by omega); (try have hb25 : wr.heap.size + 2 < w5.heap.size := by omega); (try have hbl5 : wr.heap.size ≤ w5.heap.size := by omega); (try have hbm5 : wr.heap.size < w5.heap.size + 2 := by omega)); have lB5 : B < w5.heap.size := (by omega); have lW5 : w.heap.size < w5.heap.size := (by omega); have lB6 : B < w5.heap.size + 1 := (by omega); have lW6 : w.heap.size < w5.heap.size + 1 := (by omega); have lR6 : wr.heap.size < w5.heap.size + 1 := (by omega))
        go_roundw
        case rel =>
          refine ⟨k + 1, by omega, by go_num, ?_, ?_, by simp; omega, by (repeat' (first | (with_reducible exact Below.refl _ _) | (with_reducible assumption) | (with_reducible refine Below.trans ?_ (Below.mono (by with_reducible assumption) ?_)) | (with_reducible refine Below.alloc ?_ ?_ _) | (with_reducible refine Below.setCell ?_ ?_ _) | (with_reducible refine below_drewN ?_ _) | (with_reducible refine Below.drew ?_) | go_size))⟩
          · rw [World.cell?_alloc_past _ _ _ lW5, hc5 _ _ lW1, World.cell?_alloc_past _ _ _ lr]; exact t0
          · rw [World.cell?_alloc_past _ _ _ lW5, hc5 _ _ lW1, World.cell?_alloc_past _ _ _ lr]; exact t1
        case measure => simp [intOf]; omega
      · have e0 : ((k : Int) == 0) = false := by simp; omega
        have g4' := g4.resolve_left h0
        obtain ⟨g5, g6, g7⟩ := g4'
        obtain ⟨_, _, q2, q3, _⟩ := HL.out (k - 1) (by omega)
        have c2 : wr.cell? ⟨B, O + (k - 1) * 2, none⟩ = some (.int .i64 (z ((k - 1) * 2))) := (HB.cell (p := ⟨B, O + (k - 1) * 2, none⟩) hB).trans (hcells ((k - 1) * 2) (by omega)).1
        have c3 : wr.cell? ⟨B, O + (k - 1) * 2 + 1, none⟩ = some (.int .i64 (z ((k - 1) * 2 + 1))) := (HB.cell (p := ⟨B, O + ((k - 1) * 2 + 1), none⟩) hB).trans (hcells ((k - 1) * 2 + 1) (by omega)).1
        have d1 : (d != 1) = false := by simp; exact hf.1 g6
        have k1 : (1 : Int) ≤ (k : Int) := by omega
        have k2 : (k : Int) - 1 < (n : Int) := by omega
        have k3 : (0 : Int) ≤ (k : Int) - 1 := by omega
        generalize z ((k - 1) * 2) = b0 at *
        generalize z ((k - 1) * 2 + 1) = b1 at *
        clear g4 h0 hcells g6 hf
        rcases g7 with g7 | g7
        · have s1 : (a1 - b1 != 1) = false := by simp; omega
          clear g7
          go_wp2_with ((go_at_call 78; refine (HD.out _).mono ?_; rintro e w5 ⟨rfl, hb5⟩; obtain ⟨hc5, hf5⟩ := bcell hb5; have hz5 := hb5.size; (try simp only [World.size_alloc, World.size_setCell, World.heap_drewN] at hb5 hc5 hf5 hz5); (try have ha05 : w.heap.size < w5.heap.size := by omega); (try have ha15 : w.heap.size + 1 < w5.heap.size := by omega); (try have ha25 : w.heap.size + 2 < w5.heap.size := by omega); (try have hal5 : w.heap.size ≤ w5.heap.size := by omega); (try have ham5 : w.heap.size < w5.heap.size + 2 := by omega); (try have hb05 : wr.heap.size < w5.heap.size := by omega); (try have hb15 : wr.heap.size + 1 < w5.heap.size := by omega); (try have hb25 : wr.heap.size + 2 < w5.heap.size := by omega); (try have hbl5 : wr.heap.size ≤ w5.heap.size := by omega); (try have hbm5 : wr.heap.size < w5.heap.size + 2 := by omega)); have lB5 : B < w5.heap.size := (by omega); have lW5 : w.heap.size < w5.heap.size := (by omega); have lB6 : B < w5.heap.size + 1 := (by omega); have lW6 : w.heap.size < w5.heap.size + 1 := (by omega); have lR6 : wr.heap.size < w5.heap.size + 1 := (by omega))
          go_roundw
          case rel =>
            refine ⟨k + 1, by omega, by go_num, ?_, ?_, by simp; omega, by (repeat' (first | (with_reducible exact Below.refl _ _) | (with_reducible assumption) | (with_reducible refine Below.trans ?_ (Below.mono (by with_reducible assumption) ?_)) | (with_reducible refine Below.alloc ?_ ?_ _) | (with_reducible refine Below.setCell ?_ ?_ _) | (with_reducible refine below_drewN ?_ _) | (with_reducible refine Below.drew ?_) | go_size))⟩
            · rw [World.cell?_alloc_past _ _ _ (by simp; omega), World.cell?_alloc_past _ _ _ lW5, hc5 _ _ lW1, World.cell?_alloc_past _ _ _ lr]; exact t0
            · rw [World.cell?_alloc_past _ _ _ (by simp; omega), World.cell?_alloc_past _ _ _ lW5, hc5 _ _ lW1, World.cell?_alloc_past _ _ _ lr]; exact t1
          case measure => simp [intOf]; omega
        · have s1 : (a1 - b1 != 1) = true := by simp; omega
          have s2 : (a1 - b1 != -1) = false := by simp; omega
          clear g7
          go_wp2_with ((go_at_call 78; refine (HD.out _).mono ?_; rintro e w5 ⟨rfl, hb5⟩; obtain ⟨hc5, hf5⟩ := bcell hb5; have hz5 := hb5.size; (try simp only [World.size_alloc, World.size_setCell, World.heap_drewN] at hb5 hc5 hf5 hz5); (try have ha05 : w.heap.size < w5.heap.size := by omega); (try have ha15 : w.heap.size + 1 < w5.heap.size := by omega); (try have ha25 : w.heap.size + 2 < w5.heap.size := by omega); (try have hal5 : w.heap.size ≤ w5.heap.size := by omega); (try have ham5 : w.heap.size < w5.heap.size + 2 := by omega); (try have hb05 : wr.heap.size < w5.heap.size := by omega); (try have hb15 : wr.heap.size + 1 < w5.heap.size := by omega); (try have hb25 : wr.heap.size + 2 < w5.heap.size := by omega); (try have hbl5 : wr.heap.size ≤ w5.heap.size := by omega); (try have hbm5 : wr.heap.size < w5.heap.size + 2 := by omega)); have lB5 : B < w5.heap.size := (by omega); have lW5 : w.heap.size < w5.heap.size := (by omega); have lB6 : B < w5.heap.size + 1 := (by omega); have lW6 : w.heap.size < w5.heap.size + 1 := (by omega); have lR6 : wr.heap.size < w5.heap.size + 1 := (by omega))
          go_roundw
          case rel =>
            refine ⟨k + 1, by omega, by go_num, ?_, ?_, by simp; omega, by (repeat' (first | (with_reducible exact Below.refl _ _) | (with_reducible assumption) | (with_reducible refine Below.trans ?_ (Below.mono (by with_reducible assumption) ?_)) | (with_reducible refine Below.alloc ?_ ?_ _) | (with_reducible refine Below.setCell ?_ ?_ _) | (with_reducible refine below_drewN ?_ _) | (with_reducible refine Below.drew ?_) | go_size))⟩
            · rw [World.cell?_alloc_past _ _ _ (by simp; omega), World.cell?_alloc_past _ _ _ lW5, hc5 _ _ lW1, World.cell?_alloc_past _ _ _ lr]; exact t0
            · rw [World.cell?_alloc_past _ _ _ (by simp; omega), World.cell?_alloc_past _ _ _ lW5, hc5 _ _ lW1, World.cell?_alloc_past _ _ _ lr]; exact t1
          case measure => simp [intOf]; omega
    · obtain rfl : k = n := by omega
      obtain ⟨B, O, rfl, hB, hcells⟩ := HZ.out (by omega)
      have lB : B < wr.heap.size := Nat.lt_of_lt_of_le hB HB.size
      have c2 : wr.cell? ⟨B, O + (k - 1) * 2, none⟩ = some (.int .i64 (z ((k - 1) * 2))) := (HB.cell (p := ⟨B, O + (k - 1) * 2, none⟩) hB).trans (hcells ((k - 1) * 2) (by omega)).1
      have hx := HX.out
      generalize z ((k - 1) * 2) = b0 at *
      clear hcells
      go_wp2_with fail
      refine (HDX.out _).mono ?_; rintro e w5 ⟨rfl, hb5⟩
      have q0 : w5.cell? ⟨w.heap.size, 0, none⟩ = some (.slice (some ⟨B, O, none⟩) k c) := (hb5.cell (p := ⟨w.heap.size, 0, none⟩) lr).trans t0
      have q1 : w5.cell? ⟨w.heap.size, 1, none⟩ = some (.int .i64 x) := (hb5.cell (p := ⟨w.heap.size, 1, none⟩) lr).trans t1
      have q2 : w5.cell? ⟨B, O + (k - 1) * 2, none⟩ = some (.int .i64 b0) := (hb5.cell (p := ⟨B, O + (k - 1) * 2, none⟩) lB).trans c2
      have lW5 : w.heap.size < w5.heap.size := Nat.lt_of_lt_of_le lr hb5.size
      have lB5 : B < w5.heap.size := Nat.lt_of_lt_of_le lB hb5.size
      have HB5 : Below w.heap.size w w5 := HB.trans (hb5.mono (by omega))
      have k1 : (1 : Int) ≤ (k : Int) := by omega
      have k2 : (k : Int) - 1 < (k : Int) := by omega
      have k3 : (0 : Int) ≤ (k : Int) - 1 := by omega
      clear hb5 t0 t1 c2
      go_wp2
      go_quiet (fail)
      go_wp2
      go_ret
      go_light
      exact ⟨rfl, by (repeat' (first | (with_reducible exact Below.refl _ _) | (with_reducible assumption) | (with_reducible refine Below.trans ?_ (Below.mono (by with_reducible assumption) ?_)) | (with_reducible refine Below.alloc ?_ ?_ _) | (with_reducible refine Below.setCell ?_ ?_ _) | (with_reducible refine below_drewN ?_ _) | (with_reducible refine Below.drew ?_) | go_size))⟩
end Go.Proofs.YtepdnkpmkhjlgaaGreat

/- leap.offset, Offset, Length of a table. -/
namespace Go.Proofs.YtepdnkpmkhjlgaaGreat
open Go.RowKit

/-- The offset that holds on a day, by the first k leaps. -/
def offK (z : Nat → Int) (day : Int) : Nat → Int
  | 0 => z 1
  | k + 1 => if z (k * 2) ≤ day then z (k * 2 + 1) else offK z day k
theorem offK_bd {z : Nat → Int} {n : Nat} {x : Int} (h : IsTab z n x) (day : Int) : ∀ k, k ≤ n → 0 ≤ offK z day k ∧ offK z day k ≤ 1000 := by
  intro k
  induction k with
  | zero => intro _; have := h.2.2.1 0 (by have := h.1; omega); exact ⟨this.2.2.1, this.2.2.2.1⟩
  | succ k ih =>
    intro hk
    have h1 := h.2.2.1 k (by omega)
    unfold offK
    split
    · exact ⟨h1.2.2.1, h1.2.2.2.1⟩
    · exact ih (by omega)
set_option maxHeartbeats 4000000 in
theorem leap_off (A : Option Addr) (n c : Nat) (x day : Int) (z : Nat → Int) (w : World) (hz : FlatAt w A 2 n z) (n1 : 1 ≤ n) (hn : n ≤ 1000) :
    Calls Tryz.prog 108 #[.agg #[.slice A n c, .int .i64 x], .int .i64 day] w fun e w' => e = .returned (.int .i64 (offK z day n)) ∧ Below w.heap.size w w' := by
  have HB0 : Below w.heap.size w (w.alloc (.cells #[.slice A n c, .int .i64 x] 24)) := by (repeat' (first | (with_reducible exact Below.refl _ _) | (with_reducible assumption) | (with_reducible refine Below.trans ?_ (Below.mono (by with_reducible assumption) ?_)) | (with_reducible refine Below.alloc ?_ ?_ _) | (with_reducible refine Below.setCell ?_ ?_ _) | (with_reducible refine below_drewN ?_ _) | (with_reducible refine Below.drew ?_) | go_size))
  obtain ⟨B, O, rfl, hB, hcells⟩ := hz (by omega)
  have z1 : w.cell? ⟨B, O + 1, none⟩ = some (.int .i64 (z 1)) := (hcells 1 (by omega)).1
  have n1' : (0 : Int) < (n : Int) := by omega
  have lB1 : B < w.heap.size + 1 := by omega
  have nB1 : B ≠ w.heap.size := by omega
  have HC := Lib.hid hcells
  clear hcells hz
  go_enter Tryz.func108, Tryz.ntmps108
  go_wp2
  go_loopw [5, 16] (fun o i wr => ∃ k : Nat, k ≤ n ∧ i = .int .i64 k ∧ o = .int .i64 (offK z day k) ∧ Below w.heap.size w wr) (fun _ i _ => n - (intOf i).toNat)
  case atStart => exact ⟨0, Nat.zero_le _, rfl, rfl, HB0⟩
  case round =>
    obtain ⟨k, hk, rfl, rfl, HB⟩ := hrel
    clear HB0
    have lr := HB.size
    by_cases hlt : k < n
    · have lB : B < wr.heap.size := by omega
      have lk : (k : Int) < (n : Int) := by omega
      have c0 : wr.cell? ⟨B, O + k * 2, none⟩ = some (.int .i64 (z (k * 2))) := (HB.cell (p := ⟨B, O + k * 2, none⟩) hB).trans (HC.out (k * 2) (by omega)).1
      have c1 : wr.cell? ⟨B, O + k * 2 + 1, none⟩ = some (.int .i64 (z (k * 2 + 1))) := (HB.cell (p := ⟨B, O + (k * 2 + 1), none⟩) hB).trans (HC.out (k * 2 + 1) (by omega)).1
      have HS : Hid (offK z day (k + 1) = if z (k * 2) ≤ day then z (k * 2 + 1) else offK z day k) := Lib.hid rfl
      generalize z (k * 2) = a0 at *
      generalize z (k * 2 + 1) = a1 at *
      generalize offK z day k = ok at *
      by_cases hd : a0 ≤ day
      · have HS' : Hid (offK z day (k + 1) = a1) := Lib.hid (by rw [HS.out, if_pos hd])
        clear HS
        go_wp2
        go_roundw
        case rel => exact ⟨k + 1, by omega, by go_num, by rw [HS'.out], HB.alloc (by omega) _⟩
        case measure => simp [intOf]; omega
      · have HS' : Hid (offK z day (k + 1) = ok) := Lib.hid (by rw [HS.out, if_neg hd])
        have hd' : day < a0 := by omega
        clear HS hd
        go_wp2
        go_roundw
        case rel => exact ⟨k + 1, by omega, by go_num, by rw [HS'.out], HB.alloc (by omega) _⟩
        case measure => simp [intOf]; omega
    · obtain rfl : k = n := by omega
      go_wp2
      go_ret
      exact ⟨rfl, HB⟩
set_option maxHeartbeats 1000000 in
theorem leap_offset_yes (A : Option Addr) (n c : Nat) (x day : Int) (z : Nat → Int) (w : World) (hz : FlatAt w A 2 n z) (ht : IsTab z n x) :
    Calls Tryz.prog 98 #[.agg #[.slice A n c, .int .i64 x], .int .i64 day] w fun e w' => e = .returned (.int .i64 (offK z day n)) ∧ Below w.heap.size w w' := by
  have HB0 : Below w.heap.size w (w.alloc (.cells #[.slice A n c, .int .i64 x] 24)) := by (repeat' (first | (with_reducible exact Below.refl _ _) | (with_reducible assumption) | (with_reducible refine Below.trans ?_ (Below.mono (by with_reducible assumption) ?_)) | (with_reducible refine Below.alloc ?_ ?_ _) | (with_reducible refine Below.setCell ?_ ?_ _) | (with_reducible refine below_drewN ?_ _) | (with_reducible refine Below.drew ?_) | go_size))
  have n1 := ht.1
  have n100 := ht.2.1
  have HT := Lib.hid ht
  have HZ := Lib.hid hz
  clear hz ht
  go_enter Tryz.func98, Tryz.ntmps98
  go_wp2_with fail
  refine (leap_is_yes A n c x z _ (HZ.out.below HB0) HT.out).mono ?_; rintro e w1 ⟨rfl, hb1⟩
  have HB1 : Below w.heap.size w w1 := HB0.trans (hb1.mono HB0.size)
  have q0 : w1.cell? ⟨w.heap.size, 0, none⟩ = some (.slice A n c) := (hb1.cell (p := ⟨w.heap.size, 0, none⟩) (by simp)).trans (by simp)
  have q1 : w1.cell? ⟨w.heap.size, 1, none⟩ = some (.int .i64 x) := (hb1.cell (p := ⟨w.heap.size, 1, none⟩) (by simp)).trans (by simp)
  clear hb1
  go_wp2_with fail
  refine (leap_off A n c x day z _ (HZ.out.below HB1) n1 (by omega)).mono ?_; rintro e w2 ⟨rfl, hb2⟩
  go_wp2
  go_ret
  exact ⟨rfl, HB1.trans (hb2.mono HB1.size)⟩
end Go.Proofs.YtepdnkpmkhjlgaaGreat

/- leap.Length of a table. -/
namespace Go.Proofs.YtepdnkpmkhjlgaaGreat
open Go.RowKit

set_option maxHeartbeats 4000000 in
theorem leap_length_yes (A : Option Addr) (n c : Nat) (x day : Int) (z : Nat → Int) (w : World) (hz : FlatAt w A 2 n z) (ht : IsTab z n x) (d0 : -9223372036854775808 ≤ day) (d1 : day < 9223372036854775807) :
    Calls Tryz.prog 99 #[.agg #[.slice A n c, .int .i64 x], .int .i64 day] w fun e w' => e = .returned (.int .i64 (86400 + offK z (day + 1) n - offK z day n)) ∧ Below w.heap.size w w' := by
  have HB0 : Below w.heap.size w (w.alloc (.cells #[.slice A n c, .int .i64 x] 24)) := by (repeat' (first | (with_reducible exact Below.refl _ _) | (with_reducible assumption) | (with_reducible refine Below.trans ?_ (Below.mono (by with_reducible assumption) ?_)) | (with_reducible refine Below.alloc ?_ ?_ _) | (with_reducible refine Below.setCell ?_ ?_ _) | (with_reducible refine below_drewN ?_ _) | (with_reducible refine Below.drew ?_) | go_size))
  have n1 := ht.1
  have n100 := ht.2.1
  have b0 := offK_bd ht day n (Nat.le_refl _)
  have b1 := offK_bd ht (day + 1) n (Nat.le_refl _)
  have HT := Lib.hid ht
  have HZ := Lib.hid hz
  clear hz ht
  have dd : day < day + 1 := by omega
  go_enter Tryz.func99, Tryz.ntmps99
  go_wp2_with fail
  refine (leap_is_yes A n c x z _ (HZ.out.below HB0) HT.out).mono ?_; rintro e w1 ⟨rfl, hb1⟩
  have HB1 : Below w.heap.size w w1 := HB0.trans (hb1.mono HB0.size)
  have q0 : w1.cell? ⟨w.heap.size, 0, none⟩ = some (.slice A n c) := (hb1.cell (p := ⟨w.heap.size, 0, none⟩) (by simp)).trans (by simp)
  have q1 : w1.cell? ⟨w.heap.size, 1, none⟩ = some (.int .i64 x) := (hb1.cell (p := ⟨w.heap.size, 1, none⟩) (by simp)).trans (by simp)
  have l1 : w.heap.size < w1.heap.size := by have := hb1.size; simp at this; omega
  clear hb1
  have s1 : IntKind.i64.wrap (86400 + offK z (day + 1) n) = 86400 + offK z (day + 1) n := IntWalk.i64_in _ (by omega)
  have s2 : IntKind.i64.wrap (86400 + offK z (day + 1) n - offK z day n) = 86400 + offK z (day + 1) n - offK z day n := IntWalk.i64_in _ (by omega)
  generalize hO1 : offK z (day + 1) n = o1 at *
  generalize hO0 : offK z day n = o0 at *
  have H1 := Lib.hid hO1
  have H0 := Lib.hid hO0
  have S1 := Lib.hid s1
  have S2 := Lib.hid s2
  clear hO1 hO0 s1 s2
  go_wp2
  go_region_held3 (fun w' => w'.cell? ⟨w.heap.size, 0, none⟩ = some (.slice A n c) ∧ w'.cell? ⟨w.heap.size, 1, none⟩ = some (.int .i64 x)) (first | exact ⟨q0, q1⟩ | exact ⟨q3, q4⟩)
    (first | (go_at_call 108; refine (leap_off A n c x _ z _ (HZ.out.below (by (repeat' (first | (with_reducible exact Below.refl _ _) | (with_reducible assumption) | (with_reducible refine Below.trans ?_ (Below.mono (by with_reducible assumption) ?_)) | (with_reducible refine Below.alloc ?_ ?_ _) | (with_reducible refine Below.setCell ?_ ?_ _) | (with_reducible refine below_drewN ?_ _) | (with_reducible refine Below.drew ?_) | go_size)))) n1 (by omega)).mono ?_; rintro e w3 ⟨rfl, hb3⟩; (first | rw [H1.out] | rw [H0.out]); have q5 := (hb3.cell (p := ⟨w.heap.size, 0, none⟩) (by first | exact l1 | exact l3)).trans (by first | exact q0 | exact q3); have q4 := (hb3.cell (p := ⟨w.heap.size, 1, none⟩) (by first | exact l1 | exact l3)).trans (by first | exact q1 | exact q4); have q3 := q5; have l4 : w.heap.size < w3.heap.size := Nat.lt_of_lt_of_le (by first | exact l1 | exact l3) hb3.size; have l3 := l4; have HB3 : Below w.heap.size w w3 := Below.trans (by (repeat' (first | (with_reducible exact Below.refl _ _) | (with_reducible assumption) | (with_reducible refine Below.trans ?_ (Below.mono (by with_reducible assumption) ?_)) | (with_reducible refine Below.alloc ?_ ?_ _) | (with_reducible refine Below.setCell ?_ ?_ _) | (with_reducible refine below_drewN ?_ _) | (with_reducible refine Below.drew ?_) | go_size))) (hb3.mono (Below.size (show Below w.heap.size w _ from (by (repeat' (first | (with_reducible exact Below.refl _ _) | (with_reducible assumption) | (with_reducible refine Below.trans ?_ (Below.mono (by with_reducible assumption) ?_)) | (with_reducible refine Below.alloc ?_ ?_ _) | (with_reducible refine Below.setCell ?_ ?_ _) | (with_reducible refine below_drewN ?_ _) | (with_reducible refine Below.drew ?_) | go_size))))))))
  go_wp2
  go_ret
  exact ⟨ret_int (by rw [S1.out, S2.out, H1.out, H0.out]), HB3⟩
end Go.Proofs.YtepdnkpmkhjlgaaGreat

/- leap.Is of what is no table. -/
namespace Go.Proofs.YtepdnkpmkhjlgaaGreat
open Go.RowKit

set_option maxRecDepth 100000 in
set_option maxHeartbeats 16000000 in
theorem leap_is_no (A : Option Addr) (n c : Nat) (x : Int) (z : Nat → Int) (w : World) (hz : FlatAt w A 2 n z) (hn : n ≤ maxLen) (ht : ¬ IsTab z n x) :
    Calls Tryz.prog 53 #[.agg #[.slice A n c, .int .i64 x]] w fun e w' => e = .returned (.bool false) ∧ Below w.heap.size w w' := by
  unfold maxLen at hn
  have HB0 : Below w.heap.size w (w.alloc (.cells #[.slice A n c, .int .i64 x] 24)) := by (repeat' (first | (with_reducible exact Below.refl _ _) | (with_reducible assumption) | (with_reducible refine Below.trans ?_ (Below.mono (by with_reducible assumption) ?_)) | (with_reducible refine Below.alloc ?_ ?_ _) | (with_reducible refine Below.setCell ?_ ?_ _) | (with_reducible refine below_drewN ?_ _) | (with_reducible refine Below.drew ?_) | go_size))
  have HZ := Lib.hid hz
  have HT := Lib.hid ht
  clear hz ht
  rcases (show n < 1 ∨ 100 < n ∨ (1 ≤ n ∧ n ≤ 100) from by omega) with h | h | ⟨n1, n100⟩
  · have h' : (n : Int) < 1 := by omega
    go_enter Tryz.func53, Tryz.ntmps53
    go_wp2
    go_ret
    exact ⟨rfl, HB0⟩
  · have h' : (100 : Int) < (n : Int) := by omega
    have h2 : (1 : Int) ≤ (n : Int) := by omega
    go_enter Tryz.func53, Tryz.ntmps53
    go_wp2
    go_ret
    exact ⟨rfl, HB0⟩
  have n1' : (1 : Int) ≤ (n : Int) := by omega
  have n100' : (n : Int) ≤ 100 := by omega
  go_enter Tryz.func53, Tryz.ntmps53
  go_wp2_with fail
  go_loopw [24] (fun i wr => ∃ k : Nat, k ≤ n ∧ i = .int .i64 k ∧ (∀ j, j < k → LeapOk z j) ∧ wr.cell? ⟨w.heap.size, 0, none⟩ = some (.slice A n c) ∧ wr.cell? ⟨w.heap.size, 1, none⟩ = some (.int .i64 x) ∧ w.heap.size < wr.heap.size ∧ Below w.heap.size w wr) (fun i _ => n - (intOf i).toNat)
  case atStart => exact ⟨0, Nat.zero_le _, rfl, fun j hj => absurd hj (by omega), by simp, by simp, by simp, HB0⟩
  case round =>
    obtain ⟨k, hk, rfl, hl, t0, t1, lr, HB⟩ := hrel
    have HL := Lib.hid hl
    clear HB0 hl
    by_cases hlt : k < n
    · obtain ⟨B, O, rfl, hB, hcells⟩ := HZ.out (by omega)
      have lB : B < wr.heap.size := Nat.lt_of_lt_of_le hB HB.size
      have nB : B ≠ wr.heap.size := by omega
      have nW : w.heap.size ≠ wr.heap.size := by omega
      have lB1 : B < wr.heap.size + 1 := by omega
      have lW1 : w.heap.size < wr.heap.size + 1 := by omega
      have lk : (k : Int) < (n : Int) := by omega
      have c0 : wr.cell? ⟨B, O + k * 2, none⟩ = some (.int .i64 (z (k * 2))) := (HB.cell (p := ⟨B, O + k * 2, none⟩) hB).trans (hcells (k * 2) (by omega)).1
      have c1 : wr.cell? ⟨B, O + k * 2 + 1, none⟩ = some (.int .i64 (z (k * 2 + 1))) := (HB.cell (p := ⟨B, O + (k * 2 + 1), none⟩) hB).trans (hcells (k * 2 + 1) (by omega)).1
      by_cases hok : LeapOk z k
      · have HK : Hid (∀ j, j < k + 1 → LeapOk z j) := Lib.hid fun j hj => by
          rcases (show j < k ∨ j = k from by omega) with h1 | rfl
          · exact HL.out j h1
          · exact hok
        obtain ⟨g0, g1, g2, g3, g4⟩ := hok
        obtain ⟨y, m, d, hf, d0, d1, hd⟩ := cal_date_some _ g0 g1
        have HD := Lib.hid hd
        clear hd
        generalize z (k * 2) = a0 at *
        generalize z (k * 2 + 1) = a1 at *
        by_cases h0 : k = 0
        · have e0 : ((k : Int) == 0) = true := by simp [h0]
          clear g4 h0 hcells
          go_wp2_with ((go_at_call 78; refine (HD.out _).mono ?_; rintro e w5 ⟨rfl, hb5⟩; obtain ⟨hc5, hf5⟩ := bcell hb5; have hz5 := hb5.size; (try simp only [World.size_alloc, World.size_setCell, World.heap_drewN] at hb5 hc5 hf5 hz5); (try have ha05 : w.heap.size < w5.heap.size := by omega); (try have ha15 : w.heap.size + 1 < w5.heap.size := by omega); (try have ha25 : w.heap.size + 2 < w5.heap.size := by omega); (try have hal5 : w.heap.size ≤ w5.heap.size := by omega); (try have ham5 : w.heap.size < w5.heap.size + 2 := by omega); (try have hb05 : wr.heap.size < w5.heap.size := by omega); (try have hb15 : wr.heap.size + 1 < w5.heap.size := by omega); (try have hb25 : wr.heap.size + 2 < w5.heap.size := by omega); (try have hbl5 : wr.heap.size ≤ w5.heap.size := by omega); (try have hbm5 : wr.heap.size < w5.heap.size + 2 := by omega)); have lB5 : B < w5.heap.size := (by omega); have lW5 : w.heap.size < w5.heap.size := (by omega); have lB6 : B < w5.heap.size + 1 := (by omega); have lW6 : w.heap.size < w5.heap.size + 1 := (by omega); have lR6 : wr.heap.size < w5.heap.size + 1 := (by omega))
          go_roundw
          case rel =>
            refine ⟨k + 1, by omega, by go_num, HK.out, ?_, ?_, by simp; omega, by (repeat' (first | (with_reducible exact Below.refl _ _) | (with_reducible assumption) | (with_reducible refine Below.trans ?_ (Below.mono (by with_reducible assumption) ?_)) | (with_reducible refine Below.alloc ?_ ?_ _) | (with_reducible refine Below.setCell ?_ ?_ _) | (with_reducible refine below_drewN ?_ _) | (with_reducible refine Below.drew ?_) | go_size))⟩
            · rw [World.cell?_alloc_past _ _ _ lW5, hc5 _ _ lW1, World.cell?_alloc_past _ _ _ lr]; exact t0
            · rw [World.cell?_alloc_past _ _ _ lW5, hc5 _ _ lW1, World.cell?_alloc_past _ _ _ lr]; exact t1
          case measure => simp [intOf]; omega
        · have e0 : ((k : Int) == 0) = false := by simp; omega
          have g4' := g4.resolve_left h0
          obtain ⟨g5, g6, g7⟩ := g4'
          obtain ⟨_, _, q2, q3, _⟩ := HL.out (k - 1) (by omega)
          have c2 : wr.cell? ⟨B, O + (k - 1) * 2, none⟩ = some (.int .i64 (z ((k - 1) * 2))) := (HB.cell (p := ⟨B, O + (k - 1) * 2, none⟩) hB).trans (hcells ((k - 1) * 2) (by omega)).1
          have c3 : wr.cell? ⟨B, O + (k - 1) * 2 + 1, none⟩ = some (.int .i64 (z ((k - 1) * 2 + 1))) := (HB.cell (p := ⟨B, O + ((k - 1) * 2 + 1), none⟩) hB).trans (hcells ((k - 1) * 2 + 1) (by omega)).1
          have d1 : (d != 1) = false := by simp; exact hf.1 g6
          have k1 : (1 : Int) ≤ (k : Int) := by omega
          have k2 : (k : Int) - 1 < (n : Int) := by omega
          have k3 : (0 : Int) ≤ (k : Int) - 1 := by omega
          generalize z ((k - 1) * 2) = b0 at *
          generalize z ((k - 1) * 2 + 1) = b1 at *
          clear g4 h0 hcells g6 hf
          rcases g7 with g7 | g7
          · have s1 : (a1 - b1 != 1) = false := by simp; omega
            clear g7
            go_wp2_with ((go_at_call 78; refine (HD.out _).mono ?_; rintro e w5 ⟨rfl, hb5⟩; obtain ⟨hc5, hf5⟩ := bcell hb5; have hz5 := hb5.size; (try simp only [World.size_alloc, World.size_setCell, World.heap_drewN] at hb5 hc5 hf5 hz5); (try have ha05 : w.heap.size < w5.heap.size := by omega); (try have ha15 : w.heap.size + 1 < w5.heap.size := by omega); (try have ha25 : w.heap.size + 2 < w5.heap.size := by omega); (try have hal5 : w.heap.size ≤ w5.heap.size := by omega); (try have ham5 : w.heap.size < w5.heap.size + 2 := by omega); (try have hb05 : wr.heap.size < w5.heap.size := by omega); (try have hb15 : wr.heap.size + 1 < w5.heap.size := by omega); (try have hb25 : wr.heap.size + 2 < w5.heap.size := by omega); (try have hbl5 : wr.heap.size ≤ w5.heap.size := by omega); (try have hbm5 : wr.heap.size < w5.heap.size + 2 := by omega)); have lB5 : B < w5.heap.size := (by omega); have lW5 : w.heap.size < w5.heap.size := (by omega); have lB6 : B < w5.heap.size + 1 := (by omega); have lW6 : w.heap.size < w5.heap.size + 1 := (by omega); have lR6 : wr.heap.size < w5.heap.size + 1 := (by omega))
            go_roundw
            case rel =>
              refine ⟨k + 1, by omega, by go_num, HK.out, ?_, ?_, by simp; omega, by (repeat' (first | (with_reducible exact Below.refl _ _) | (with_reducible assumption) | (with_reducible refine Below.trans ?_ (Below.mono (by with_reducible assumption) ?_)) | (with_reducible refine Below.alloc ?_ ?_ _) | (with_reducible refine Below.setCell ?_ ?_ _) | (with_reducible refine below_drewN ?_ _) | (with_reducible refine Below.drew ?_) | go_size))⟩
              · rw [World.cell?_alloc_past _ _ _ (by simp; omega), World.cell?_alloc_past _ _ _ lW5, hc5 _ _ lW1, World.cell?_alloc_past _ _ _ lr]; exact t0
              · rw [World.cell?_alloc_past _ _ _ (by simp; omega), World.cell?_alloc_past _ _ _ lW5, hc5 _ _ lW1, World.cell?_alloc_past _ _ _ lr]; exact t1
            case measure => simp [intOf]; omega
          · have s1 : (a1 - b1 != 1) = true := by simp; omega
            have s2 : (a1 - b1 != -1) = false := by simp; omega
            clear g7
            go_wp2_with ((go_at_call 78; refine (HD.out _).mono ?_; rintro e w5 ⟨rfl, hb5⟩; obtain ⟨hc5, hf5⟩ := bcell hb5; have hz5 := hb5.size; (try simp only [World.size_alloc, World.size_setCell, World.heap_drewN] at hb5 hc5 hf5 hz5); (try have ha05 : w.heap.size < w5.heap.size := by omega); (try have ha15 : w.heap.size + 1 < w5.heap.size := by omega); (try have ha25 : w.heap.size + 2 < w5.heap.size := by omega); (try have hal5 : w.heap.size ≤ w5.heap.size := by omega); (try have ham5 : w.heap.size < w5.heap.size + 2 := by omega); (try have hb05 : wr.heap.size < w5.heap.size := by omega); (try have hb15 : wr.heap.size + 1 < w5.heap.size := by omega); (try have hb25 : wr.heap.size + 2 < w5.heap.size := by omega); (try have hbl5 : wr.heap.size ≤ w5.heap.size := by omega); (try have hbm5 : wr.heap.size < w5.heap.size + 2 := by omega)); have lB5 : B < w5.heap.size := (by omega); have lW5 : w.heap.size < w5.heap.size := (by omega); have lB6 : B < w5.heap.size + 1 := (by omega); have lW6 : w.heap.size < w5.heap.size + 1 := (by omega); have lR6 : wr.heap.size < w5.heap.size + 1 := (by omega))
            go_roundw
            case rel =>
              refine ⟨k + 1, by omega, by go_num, HK.out, ?_, ?_, by simp; omega, by (repeat' (first | (with_reducible exact Below.refl _ _) | (with_reducible assumption) | (with_reducible refine Below.trans ?_ (Below.mono (by with_reducible assumption) ?_)) | (with_reducible refine Below.alloc ?_ ?_ _) | (with_reducible refine Below.setCell ?_ ?_ _) | (with_reducible refine below_drewN ?_ _) | (with_reducible refine Below.drew ?_) | go_size))⟩
              · rw [World.cell?_alloc_past _ _ _ (by simp; omega), World.cell?_alloc_past _ _ _ lW5, hc5 _ _ lW1, World.cell?_alloc_past _ _ _ lr]; exact t0
              · rw [World.cell?_alloc_past _ _ _ (by simp; omega), World.cell?_alloc_past _ _ _ lW5, hc5 _ _ lW1, World.cell?_alloc_past _ _ _ lr]; exact t1
            case measure => simp [intOf]; omega
      · have hbad : ¬ (-719162 ≤ z (k * 2) ∧ z (k * 2) ≤ 2932896 ∧ 0 ≤ z (k * 2 + 1) ∧ z (k * 2 + 1) ≤ 1000 ∧ (k = 0 ∨ (z ((k - 1) * 2) < z (k * 2) ∧ First (z (k * 2)) ∧ (z (k * 2 + 1) - z ((k - 1) * 2 + 1) = 1 ∨ z (k * 2 + 1) - z ((k - 1) * 2 + 1) = -1)))) := hok
        clear hok
        have hq : k ≠ 0 → wr.cell? ⟨B, O + (k - 1) * 2, none⟩ = some (.int .i64 (z ((k - 1) * 2))) ∧ wr.cell? ⟨B, O + (k - 1) * 2 + 1, none⟩ = some (.int .i64 (z ((k - 1) * 2 + 1))) ∧ 0 ≤ z ((k - 1) * 2 + 1) ∧ z ((k - 1) * 2 + 1) ≤ 1000 := fun h0 => by
          obtain ⟨_, _, q2, q3, _⟩ := HL.out (k - 1) (by omega)
          exact ⟨(HB.cell (p := ⟨B, O + (k - 1) * 2, none⟩) hB).trans (hcells ((k - 1) * 2) (by omega)).1, (HB.cell (p := ⟨B, O + ((k - 1) * 2 + 1), none⟩) hB).trans (hcells ((k - 1) * 2 + 1) (by omega)).1, q2, q3⟩
        clear hcells
        generalize z (k * 2) = a0 at *
        generalize z (k * 2 + 1) = a1 at *
        generalize z ((k - 1) * 2) = b0 at *
        generalize z ((k - 1) * 2 + 1) = b1 at *
        by_cases r : a0 < -719162 ∨ 2932896 < a0
        · have HD := Lib.hid fun w : World => cal_date_no a0 w r
          clear hbad hq r
          go_wp2_with ((go_at_call 78; refine (HD.out _).mono ?_; rintro e w5 ⟨rfl, hb5⟩; obtain ⟨hc5, hf5⟩ := bcell hb5; have hz5 := hb5.size; (try simp only [World.size_alloc, World.size_setCell, World.heap_drewN] at hb5 hc5 hf5 hz5); (try have ha05 : w.heap.size < w5.heap.size := by omega); (try have ha15 : w.heap.size + 1 < w5.heap.size := by omega); (try have ha25 : w.heap.size + 2 < w5.heap.size := by omega); (try have hal5 : w.heap.size ≤ w5.heap.size := by omega); (try have ham5 : w.heap.size < w5.heap.size + 2 := by omega); (try have hb05 : wr.heap.size < w5.heap.size := by omega); (try have hb15 : wr.heap.size + 1 < w5.heap.size := by omega); (try have hb25 : wr.heap.size + 2 < w5.heap.size := by omega); (try have hbl5 : wr.heap.size ≤ w5.heap.size := by omega); (try have hbm5 : wr.heap.size < w5.heap.size + 2 := by omega)); have lB5 : B < w5.heap.size := (by omega); have lW5 : w.heap.size < w5.heap.size := (by omega); have lB6 : B < w5.heap.size + 1 := (by omega); have lW6 : w.heap.size < w5.heap.size + 1 := (by omega); have lR6 : wr.heap.size < w5.heap.size + 1 := (by omega))
          go_ret
          go_light
          exact ⟨rfl, by (repeat' (first | (with_reducible exact Below.refl _ _) | (with_reducible assumption) | (with_reducible refine Below.trans ?_ (Below.mono (by with_reducible assumption) ?_)) | (with_reducible refine Below.alloc ?_ ?_ _) | (with_reducible refine Below.setCell ?_ ?_ _) | (with_reducible refine below_drewN ?_ _) | (with_reducible refine Below.drew ?_) | go_size))⟩
        · obtain ⟨y, m, d, hf, d0, d1, hd⟩ := cal_date_some a0 (by omega) (by omega)
          have HD := Lib.hid hd
          clear hd
          by_cases r1 : a1 < 0
          · clear hbad hq r hf
            go_wp2_with ((go_at_call 78; refine (HD.out _).mono ?_; rintro e w5 ⟨rfl, hb5⟩; obtain ⟨hc5, hf5⟩ := bcell hb5; have hz5 := hb5.size; (try simp only [World.size_alloc, World.size_setCell, World.heap_drewN] at hb5 hc5 hf5 hz5); (try have ha05 : w.heap.size < w5.heap.size := by omega); (try have ha15 : w.heap.size + 1 < w5.heap.size := by omega); (try have ha25 : w.heap.size + 2 < w5.heap.size := by omega); (try have hal5 : w.heap.size ≤ w5.heap.size := by omega); (try have ham5 : w.heap.size < w5.heap.size + 2 := by omega); (try have hb05 : wr.heap.size < w5.heap.size := by omega); (try have hb15 : wr.heap.size + 1 < w5.heap.size := by omega); (try have hb25 : wr.heap.size + 2 < w5.heap.size := by omega); (try have hbl5 : wr.heap.size ≤ w5.heap.size := by omega); (try have hbm5 : wr.heap.size < w5.heap.size + 2 := by omega)); have lB5 : B < w5.heap.size := (by omega); have lW5 : w.heap.size < w5.heap.size := (by omega); have lB6 : B < w5.heap.size + 1 := (by omega); have lW6 : w.heap.size < w5.heap.size + 1 := (by omega); have lR6 : wr.heap.size < w5.heap.size + 1 := (by omega))
            go_ret
            go_light
            exact ⟨rfl, by (repeat' (first | (with_reducible exact Below.refl _ _) | (with_reducible assumption) | (with_reducible refine Below.trans ?_ (Below.mono (by with_reducible assumption) ?_)) | (with_reducible refine Below.alloc ?_ ?_ _) | (with_reducible refine Below.setCell ?_ ?_ _) | (with_reducible refine below_drewN ?_ _) | (with_reducible refine Below.drew ?_) | go_size))⟩
          · by_cases r2 : 1000 < a1
            · have r1' : 0 ≤ a1 := by omega
              clear hbad hq r hf r1
              go_wp2_with ((go_at_call 78; refine (HD.out _).mono ?_; rintro e w5 ⟨rfl, hb5⟩; obtain ⟨hc5, hf5⟩ := bcell hb5; have hz5 := hb5.size; (try simp only [World.size_alloc, World.size_setCell, World.heap_drewN] at hb5 hc5 hf5 hz5); (try have ha05 : w.heap.size < w5.heap.size := by omega); (try have ha15 : w.heap.size + 1 < w5.heap.size := by omega); (try have ha25 : w.heap.size + 2 < w5.heap.size := by omega); (try have hal5 : w.heap.size ≤ w5.heap.size := by omega); (try have ham5 : w.heap.size < w5.heap.size + 2 := by omega); (try have hb05 : wr.heap.size < w5.heap.size := by omega); (try have hb15 : wr.heap.size + 1 < w5.heap.size := by omega); (try have hb25 : wr.heap.size + 2 < w5.heap.size := by omega); (try have hbl5 : wr.heap.size ≤ w5.heap.size := by omega); (try have hbm5 : wr.heap.size < w5.heap.size + 2 := by omega)); have lB5 : B < w5.heap.size := (by omega); have lW5 : w.heap.size < w5.heap.size := (by omega); have lB6 : B < w5.heap.size + 1 := (by omega); have lW6 : w.heap.size < w5.heap.size + 1 := (by omega); have lR6 : wr.heap.size < w5.heap.size + 1 := (by omega))
              go_ret
              go_light
              exact ⟨rfl, by (repeat' (first | (with_reducible exact Below.refl _ _) | (with_reducible assumption) | (with_reducible refine Below.trans ?_ (Below.mono (by with_reducible assumption) ?_)) | (with_reducible refine Below.alloc ?_ ?_ _) | (with_reducible refine Below.setCell ?_ ?_ _) | (with_reducible refine below_drewN ?_ _) | (with_reducible refine Below.drew ?_) | go_size))⟩
            · have r1' : 0 ≤ a1 := by omega
              have r2' : a1 ≤ 1000 := by omega
              have h0 : k ≠ 0 := fun h => hbad ⟨by omega, by omega, by omega, by omega, .inl h⟩
              obtain ⟨c2, c3, q2, q3⟩ := hq h0
              have e0 : ((k : Int) == 0) = false := by simp; omega
              have k1 : (1 : Int) ≤ (k : Int) := by omega
              have k2 : (k : Int) - 1 < (n : Int) := by omega
              have k3 : (0 : Int) ≤ (k : Int) - 1 := by omega
              by_cases r3 : a0 ≤ b0
              · clear hbad hq r hf r1 r2 h0
                go_wp2_with ((go_at_call 78; refine (HD.out _).mono ?_; rintro e w5 ⟨rfl, hb5⟩; obtain ⟨hc5, hf5⟩ := bcell hb5; have hz5 := hb5.size; (try simp only [World.size_alloc, World.size_setCell, World.heap_drewN] at hb5 hc5 hf5 hz5); (try have ha05 : w.heap.size < w5.heap.size := by omega); (try have ha15 : w.heap.size + 1 < w5.heap.size := by omega); (try have ha25 : w.heap.size + 2 < w5.heap.size := by omega); (try have hal5 : w.heap.size ≤ w5.heap.size := by omega); (try have ham5 : w.heap.size < w5.heap.size + 2 := by omega); (try have hb05 : wr.heap.size < w5.heap.size := by omega); (try have hb15 : wr.heap.size + 1 < w5.heap.size := by omega); (try have hb25 : wr.heap.size + 2 < w5.heap.size := by omega); (try have hbl5 : wr.heap.size ≤ w5.heap.size := by omega); (try have hbm5 : wr.heap.size < w5.heap.size + 2 := by omega)); have lB5 : B < w5.heap.size := (by omega); have lW5 : w.heap.size < w5.heap.size := (by omega); have lB6 : B < w5.heap.size + 1 := (by omega); have lW6 : w.heap.size < w5.heap.size + 1 := (by omega); have lR6 : wr.heap.size < w5.heap.size + 1 := (by omega))
                go_ret
                go_light
                exact ⟨rfl, by (repeat' (first | (with_reducible exact Below.refl _ _) | (with_reducible assumption) | (with_reducible refine Below.trans ?_ (Below.mono (by with_reducible assumption) ?_)) | (with_reducible refine Below.alloc ?_ ?_ _) | (with_reducible refine Below.setCell ?_ ?_ _) | (with_reducible refine below_drewN ?_ _) | (with_reducible refine Below.drew ?_) | go_size))⟩
              · have r3' : b0 < a0 := by omega
                by_cases r4 : d = 1
                · have s1 : (a1 - b1 != 1) = true := by
                    simp
                    intro h
                    exact hbad ⟨by omega, by omega, by omega, by omega, .inr ⟨by omega, hf.2 r4, .inl h⟩⟩
                  have s2 : (a1 - b1 != -1) = true := by
                    simp
                    intro h
                    exact hbad ⟨by omega, by omega, by omega, by omega, .inr ⟨by omega, hf.2 r4, .inr h⟩⟩
                  have dd : (d != 1) = false := by simp; exact r4
                  clear hbad hq r hf r1 r2 h0 r3 r4
                  go_wp2_with ((go_at_call 78; refine (HD.out _).mono ?_; rintro e w5 ⟨rfl, hb5⟩; obtain ⟨hc5, hf5⟩ := bcell hb5; have hz5 := hb5.size; (try simp only [World.size_alloc, World.size_setCell, World.heap_drewN] at hb5 hc5 hf5 hz5); (try have ha05 : w.heap.size < w5.heap.size := by omega); (try have ha15 : w.heap.size + 1 < w5.heap.size := by omega); (try have ha25 : w.heap.size + 2 < w5.heap.size := by omega); (try have hal5 : w.heap.size ≤ w5.heap.size := by omega); (try have ham5 : w.heap.size < w5.heap.size + 2 := by omega); (try have hb05 : wr.heap.size < w5.heap.size := by omega); (try have hb15 : wr.heap.size + 1 < w5.heap.size := by omega); (try have hb25 : wr.heap.size + 2 < w5.heap.size := by omega); (try have hbl5 : wr.heap.size ≤ w5.heap.size := by omega); (try have hbm5 : wr.heap.size < w5.heap.size + 2 := by omega)); have lB5 : B < w5.heap.size := (by omega); have lW5 : w.heap.size < w5.heap.size := (by omega); have lB6 : B < w5.heap.size + 1 := (by omega); have lW6 : w.heap.size < w5.heap.size + 1 := (by omega); have lR6 : wr.heap.size < w5.heap.size + 1 := (by omega))
                  go_ret
                  go_light
                  exact ⟨rfl, by (repeat' (first | (with_reducible exact Below.refl _ _) | (with_reducible assumption) | (with_reducible refine Below.trans ?_ (Below.mono (by with_reducible assumption) ?_)) | (with_reducible refine Below.alloc ?_ ?_ _) | (with_reducible refine Below.setCell ?_ ?_ _) | (with_reducible refine below_drewN ?_ _) | (with_reducible refine Below.drew ?_) | go_size))⟩
                · have dd : (d != 1) = true := by simp; exact r4
                  clear hbad hq r hf r1 r2 h0 r3 r4
                  go_wp2_with ((go_at_call 78; refine (HD.out _).mono ?_; rintro e w5 ⟨rfl, hb5⟩; obtain ⟨hc5, hf5⟩ := bcell hb5; have hz5 := hb5.size; (try simp only [World.size_alloc, World.size_setCell, World.heap_drewN] at hb5 hc5 hf5 hz5); (try have ha05 : w.heap.size < w5.heap.size := by omega); (try have ha15 : w.heap.size + 1 < w5.heap.size := by omega); (try have ha25 : w.heap.size + 2 < w5.heap.size := by omega); (try have hal5 : w.heap.size ≤ w5.heap.size := by omega); (try have ham5 : w.heap.size < w5.heap.size + 2 := by omega); (try have hb05 : wr.heap.size < w5.heap.size := by omega); (try have hb15 : wr.heap.size + 1 < w5.heap.size := by omega); (try have hb25 : wr.heap.size + 2 < w5.heap.size := by omega); (try have hbl5 : wr.heap.size ≤ w5.heap.size := by omega); (try have hbm5 : wr.heap.size < w5.heap.size + 2 := by omega)); have lB5 : B < w5.heap.size := (by omega); have lW5 : w.heap.size < w5.heap.size := (by omega); have lB6 : B < w5.heap.size + 1 := (by omega); have lW6 : w.heap.size < w5.heap.size + 1 := (by omega); have lR6 : wr.heap.size < w5.heap.size + 1 := (by omega))
                  go_ret
                  go_light
                  exact ⟨rfl, by (repeat' (first | (with_reducible exact Below.refl _ _) | (with_reducible assumption) | (with_reducible refine Below.trans ?_ (Below.mono (by with_reducible assumption) ?_)) | (with_reducible refine Below.alloc ?_ ?_ _) | (with_reducible refine Below.setCell ?_ ?_ _) | (with_reducible refine below_drewN ?_ _) | (with_reducible refine Below.drew ?_) | go_size))⟩
    · obtain rfl : k = n := by omega
      obtain ⟨B, O, rfl, hB, hcells⟩ := HZ.out (by omega)
      have lB : B < wr.heap.size := Nat.lt_of_lt_of_le hB HB.size
      have c2 : wr.cell? ⟨B, O + (k - 1) * 2, none⟩ = some (.int .i64 (z ((k - 1) * 2))) := (HB.cell (p := ⟨B, O + (k - 1) * 2, none⟩) hB).trans (hcells ((k - 1) * 2) (by omega)).1
      have hx : ¬ (-719162 ≤ x ∧ x ≤ 2932896 ∧ z ((k - 1) * 2) < x) := fun h => HT.out ⟨n1, n100, HL.out, h.1, h.2.1, h.2.2⟩
      generalize z ((k - 1) * 2) = b0 at *
      clear hcells
      have k1 : (1 : Int) ≤ (k : Int) := by omega
      have k2 : (k : Int) - 1 < (k : Int) := by omega
      have k3 : (0 : Int) ≤ (k : Int) - 1 := by omega
      by_cases r : x < -719162 ∨ 2932896 < x
      · have HDX := Lib.hid fun w : World => cal_date_no x w r
        clear hx r
        go_wp2_with fail
        refine (HDX.out _).mono ?_; rintro e w5 ⟨rfl, hb5⟩
        have HB5 : Below w.heap.size w w5 := HB.trans (hb5.mono (by omega))
        have z5 := HB5.size
        clear hb5 t0 t1 c2
        go_wp2
        go_quiet (fail)
        go_wp2
        go_ret
        go_light
        exact ⟨rfl, by (repeat' (first | (with_reducible exact Below.refl _ _) | (with_reducible assumption) | (with_reducible refine Below.trans ?_ (Below.mono (by with_reducible assumption) ?_)) | (with_reducible refine Below.alloc ?_ ?_ _) | (with_reducible refine Below.setCell ?_ ?_ _) | (with_reducible refine below_drewN ?_ _) | (with_reducible refine Below.drew ?_) | go_size))⟩
      · obtain ⟨yx, mx, dx, _, _, _, hdx⟩ := cal_date_some x (by omega) (by omega)
        have HDX := Lib.hid hdx
        have hxb : x ≤ b0 := by omega
        have hxd : decide (b0 < x) = false := by simpa using hxb
        clear hdx hx r
        go_wp2_with fail
        refine (HDX.out _).mono ?_; rintro e w5 ⟨rfl, hb5⟩
        have q0 : w5.cell? ⟨w.heap.size, 0, none⟩ = some (.slice (some ⟨B, O, none⟩) k c) := (hb5.cell (p := ⟨w.heap.size, 0, none⟩) lr).trans t0
        have q1 : w5.cell? ⟨w.heap.size, 1, none⟩ = some (.int .i64 x) := (hb5.cell (p := ⟨w.heap.size, 1, none⟩) lr).trans t1
        have q2 : w5.cell? ⟨B, O + (k - 1) * 2, none⟩ = some (.int .i64 b0) := (hb5.cell (p := ⟨B, O + (k - 1) * 2, none⟩) lB).trans c2
        have lW5 : w.heap.size < w5.heap.size := Nat.lt_of_lt_of_le lr hb5.size
        have lB5 : B < w5.heap.size := Nat.lt_of_lt_of_le lB hb5.size
        have HB5 : Below w.heap.size w w5 := HB.trans (hb5.mono (by omega))
        have z5 := HB5.size
        clear hb5 t0 t1 c2
        go_wp2
        go_quiet (fail)
        go_wp2
        go_ret
        go_light
        exact ⟨rfl, by (repeat' (first | (with_reducible exact Below.refl _ _) | (with_reducible assumption) | (with_reducible refine Below.trans ?_ (Below.mono (by with_reducible assumption) ?_)) | (with_reducible refine Below.alloc ?_ ?_ _) | (with_reducible refine Below.setCell ?_ ?_ _) | (with_reducible refine below_drewN ?_ _) | (with_reducible refine Below.drew ?_) | go_size))⟩
end Go.Proofs.YtepdnkpmkhjlgaaGreat

/- Offsets from day to day. -/
namespace Go.Proofs.YtepdnkpmkhjlgaaGreat
open Go.RowKit

theorem off_step {z : Nat → Int} {n : Nat} {x : Int} (h : IsTab z n x) (d : Int) : ∀ k, k ≤ n → -1 ≤ offK z (d + 1) k - offK z d k ∧ offK z (d + 1) k - offK z d k ≤ 1 := by
  intro k
  induction k with
  | zero => intro _; show -1 ≤ z 1 - z 1 ∧ z 1 - z 1 ≤ 1; omega
  | succ k ih =>
    intro hk
    have i := ih (by omega)
    have hk0 := h.2.2.1 k (by omega)
    unfold offK
    by_cases h1 : z (k * 2) ≤ d
    · rw [if_pos (by omega), if_pos h1]; omega
    · rw [if_neg h1]
      by_cases h2 : z (k * 2) ≤ d + 1
      · rw [if_pos h2]
        rcases k with _ | j
        · show -1 ≤ z (0 * 2 + 1) - z 1 ∧ z (0 * 2 + 1) - z 1 ≤ 1
          rw [show 0 * 2 + 1 = 1 from rfl]; omega
        · obtain ⟨_, _, _, _, h3⟩ := hk0
          rcases h3 with h3 | ⟨h4, _, h5⟩
          · omega
          · rw [show j + 1 - 1 = j from by omega] at h4 h5
            have e : offK z d (j + 1) = z (j * 2 + 1) := by
              unfold offK
              rw [if_pos (by omega)]
            rw [e]
            omega
      · rw [if_neg h2]; exact i
/-- The seconds ahead of a day. -/
def begS (z : Nat → Int) (n : Nat) (d : Int) : Int := d * 86400 + offK z d n
theorem begS_step {z : Nat → Int} {n : Nat} {x : Int} (h : IsTab z n x) (d : Int) : begS z n (d + 1) = begS z n d + (86400 + offK z (d + 1) n - offK z d n) ∧ begS z n d + 86399 ≤ begS z n (d + 1) := by
  have := off_step h d n (Nat.le_refl _)
  unfold begS
  omega
theorem begS_up {z : Nat → Int} {n : Nat} {x : Int} (h : IsTab z n x) (d : Int) (k : Nat) : begS z n d ≤ begS z n (d + k) := by
  induction k with
  | zero => simp
  | succ k ih =>
    have := (begS_step h (d + k)).2
    rw [show d + ((k + 1 : Nat) : Int) = d + k + 1 from by omega]
    omega
theorem begS_mono {z : Nat → Int} {n : Nat} {x : Int} (h : IsTab z n x) {d d' : Int} (hd : d ≤ d') : begS z n d ≤ begS z n d' := by
  have := begS_up h d (d' - d).toNat
  rwa [show d + ((d' - d).toNat : Int) = d' from by omega] at this
end Go.Proofs.YtepdnkpmkhjlgaaGreat

