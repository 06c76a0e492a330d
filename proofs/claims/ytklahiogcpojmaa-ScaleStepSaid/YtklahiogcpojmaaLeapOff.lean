/- leap.offset, Offset, Length of a table. -/
import Derived.Test.YtklahiogcpojmaaLeap
import Derived.Test.YtklahiogcpojmaaCells
set_option linter.unusedSimpArgs false
set_option linter.unusedVariables false
namespace Go.Proofs.Ytklahiogcpojmaa
open Go.RowKit

/-- The offset that holds on a day, by the first k leaps. -/
def offK (z : Nat → Int) (day : Int) : Nat → Int
  | 0 => z 1
  | k + 1 => if z (k * 2) ≤ day then z (k * 2 + 1) else offK z day k
theorem offK_bd {z : Nat → Int} {n : Nat} {x : Int} (h : IsTab z n x) (day : Int) : ∀ k, k ≤ n → 0 ≤ offK z day k ∧ offK z day k ≤ 1000 := by
  intro k
  induction k with
  | zero => intro _; have := h.2.2.1 0 (by have := h.1; omega); exact ⟨this.2.2.1, this.2.2.2.1⟩
  | succ k ih =>
    intro hk
    have h1 := h.2.2.1 k (by omega)
    unfold offK
    split
    · exact ⟨h1.2.2.1, h1.2.2.2.1⟩
    · exact ih (by omega)
set_option maxHeartbeats 4000000 in
theorem leap_off (A : Option Addr) (n c : Nat) (x day : Int) (z : Nat → Int) (w : World) (hz : FlatAt w A 2 n z) (n1 : 1 ≤ n) (hn : n ≤ 1000) :
    Calls Try.prog 45 #[.agg #[.slice A n c, .int .i64 x], .int .i64 day] w fun e w' => e = .returned (.int .i64 (offK z day n)) ∧ Below w.heap.size w w' := by
  have HB0 : Below w.heap.size w (w.alloc (.cells #[.slice A n c, .int .i64 x] 30)) := by (repeat' (first | (with_reducible exact Below.refl _ _) | (with_reducible assumption) | (with_reducible refine Below.trans ?_ (Below.mono (by with_reducible assumption) ?_)) | (with_reducible refine Below.alloc ?_ ?_ _) | (with_reducible refine Below.setCell ?_ ?_ _) | (with_reducible refine below_drewN ?_ _) | (with_reducible refine Below.drew ?_) | go_size))
  obtain ⟨B, O, rfl, hB, hcells⟩ := hz (by omega)
  have z1 : w.cell? ⟨B, O + 1, none⟩ = some (.int .i64 (z 1)) := (hcells 1 (by omega)).1
  have n1' : (0 : Int) < (n : Int) := by omega
  have lB1 : B < w.heap.size + 1 := by omega
  have nB1 : B ≠ w.heap.size := by omega
  have HC := Lib.hid hcells
  clear hcells hz
  go_enter Try.func45, Try.ntmps45
  go_wp2
  go_loopw [5, 16] (fun o i wr => ∃ k : Nat, k ≤ n ∧ i = .int .i64 k ∧ o = .int .i64 (offK z day k) ∧ Below w.heap.size w wr) (fun _ i _ => n - (intOf i).toNat)
  case atStart => exact ⟨0, Nat.zero_le _, rfl, rfl, HB0⟩
  case round =>
    obtain ⟨k, hk, rfl, rfl, HB⟩ := hrel
    clear HB0
    have lr := HB.size
    by_cases hlt : k < n
    · have lB : B < wr.heap.size := by omega
      have lk : (k : Int) < (n : Int) := by omega
      have c0 : wr.cell? ⟨B, O + k * 2, none⟩ = some (.int .i64 (z (k * 2))) := (HB.cell (p := ⟨B, O + k * 2, none⟩) hB).trans (HC.out (k * 2) (by omega)).1
      have c1 : wr.cell? ⟨B, O + k * 2 + 1, none⟩ = some (.int .i64 (z (k * 2 + 1))) := (HB.cell (p := ⟨B, O + (k * 2 + 1), none⟩) hB).trans (HC.out (k * 2 + 1) (by omega)).1
      have HS : Hid (offK z day (k + 1) = if z (k * 2) ≤ day then z (k * 2 + 1) else offK z day k) := Lib.hid rfl
      generalize z (k * 2) = a0 at *
      generalize z (k * 2 + 1) = a1 at *
      generalize offK z day k = ok at *
      by_cases hd : a0 ≤ day
      · have HS' : Hid (offK z day (k + 1) = a1) := Lib.hid (by rw [HS.out, if_pos hd])
        clear HS
        go_wp2
        go_roundw
        case rel => exact ⟨k + 1, by omega, by go_num, by rw [HS'.out], HB.alloc (by omega) _⟩
        case measure => simp [intOf]; omega
      · have HS' : Hid (offK z day (k + 1) = ok) := Lib.hid (by rw [HS.out, if_neg hd])
        have hd' : day < a0 := by omega
        clear HS hd
        go_wp2
        go_roundw
        case rel => exact ⟨k + 1, by omega, by go_num, by rw [HS'.out], HB.alloc (by omega) _⟩
        case measure => simp [intOf]; omega
    · obtain rfl : k = n := by omega
      go_wp2
      go_ret
      exact ⟨rfl, HB⟩
set_option maxHeartbeats 1000000 in
theorem leap_offset_yes (A : Option Addr) (n c : Nat) (x day : Int) (z : Nat → Int) (w : World) (hz : FlatAt w A 2 n z) (ht : IsTab z n x) :
    Calls Try.prog 46 #[.agg #[.slice A n c, .int .i64 x], .int .i64 day] w fun e w' => e = .returned (.int .i64 (offK z day n)) ∧ Below w.heap.size w w' := by
  have HB0 : Below w.heap.size w (w.alloc (.cells #[.slice A n c, .int .i64 x] 30)) := by (repeat' (first | (with_reducible exact Below.refl _ _) | (with_reducible assumption) | (with_reducible refine Below.trans ?_ (Below.mono (by with_reducible assumption) ?_)) | (with_reducible refine Below.alloc ?_ ?_ _) | (with_reducible refine Below.setCell ?_ ?_ _) | (with_reducible refine below_drewN ?_ _) | (with_reducible refine Below.drew ?_) | go_size))
  have n1 := ht.1
  have n100 := ht.2.1
  have HT := Lib.hid ht
  have HZ := Lib.hid hz
  clear hz ht
  go_enter Try.func46, Try.ntmps46
  go_wp2_with fail
  refine (leap_is_yes A n c x z _ (HZ.out.below HB0) HT.out).mono ?_; rintro e w1 ⟨rfl, hb1⟩
  have HB1 : Below w.heap.size w w1 := HB0.trans (hb1.mono HB0.size)
  have q0 : w1.cell? ⟨w.heap.size, 0, none⟩ = some (.slice A n c) := (hb1.cell (p := ⟨w.heap.size, 0, none⟩) (by simp)).trans (by simp)
  have q1 : w1.cell? ⟨w.heap.size, 1, none⟩ = some (.int .i64 x) := (hb1.cell (p := ⟨w.heap.size, 1, none⟩) (by simp)).trans (by simp)
  clear hb1
  go_wp2_with fail
  refine (leap_off A n c x day z _ (HZ.out.below HB1) n1 (by omega)).mono ?_; rintro e w2 ⟨rfl, hb2⟩
  go_wp2
  go_ret
  exact ⟨rfl, HB1.trans (hb2.mono HB1.size)⟩
end Go.Proofs.Ytklahiogcpojmaa
