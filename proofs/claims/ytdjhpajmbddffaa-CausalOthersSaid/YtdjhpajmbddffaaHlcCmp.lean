/- The contracts of package hlc: stamps, Compare, Pack. -/
import Derived.Test.YtdjhpajmbddffaaBase
set_option linter.unusedSimpArgs false
set_option linter.unusedVariables false
namespace Go.Proofs.Ytdjhpajmbddffaa
open Go.RowKit

/-- Is it a count of milliseconds, a stamp? -/
def isMilliB (n : Int) : Bool := decide (0 ≤ n) && decide (n ≤ 281474976710655)
def isStampB (m c : Int) : Bool := isMilliB m && (decide (0 ≤ c) && decide (c ≤ 65535))
/-- Where a stamp stands to another one. -/
def cmp1 (a b : Int) : Int := if a < b then -1 else if b < a then 1 else 0
def or2 (a b : Int) : Int := if a = 0 then b else a
def cmp2 (m c m' c' : Int) : Int := or2 (cmp1 m m') (cmp1 c c')

theorem cmp_compare (a b : Int) (w : World) : Calls Try.prog 35 #[.int .i64 a, .int .i64 b] w fun e w' => e = .returned (.int .i64 (cmp1 a b)) ∧ w = w' := by
  go_enter Try.func35, Try.ntmps35
  go_wp2
  all_goals
    go_ret
    go_light
    exact ⟨ret_int (by unfold cmp1; first | rw [if_pos (by omega)] | (rw [if_neg (by omega)]; first | rw [if_pos (by omega)] | rw [if_neg (by omega)])), rfl⟩
theorem cmp_or2 (a b : Int) (B : Nat) (w : World) (h0 : w.cell? ⟨B, 0, none⟩ = some (.int .i64 a)) (h1 : w.cell? ⟨B, 1, none⟩ = some (.int .i64 b)) :
    Calls Try.prog 34 #[.slice (some ⟨B, 0, none⟩) 2 2] w fun e w' => e = .returned (.int .i64 (or2 a b)) ∧ w = w' := by
  unfold or2
  by_cases ha : a = 0
  · subst ha
    by_cases hb : b = 0
    · subst hb
      go_enter Try.func34, Try.ntmps34
      go_wp2
      go_rounds 3
      go_ret
      go_light
      exact ⟨rfl, rfl⟩
    · have hb' : (b == 0) = false := by simpa using hb
      go_enter Try.func34, Try.ntmps34
      go_wp2
      go_rounds 3
      go_ret
      go_light
      exact ⟨rfl, rfl⟩
  · have ha' : (a == 0) = false := by simpa using ha
    rw [if_neg ha]
    clear ha
    go_enter Try.func34, Try.ntmps34
    go_wp2
    go_rounds 3
    go_ret
    go_light
    exact ⟨rfl, rfl⟩
set_option maxHeartbeats 400000 in
theorem hlc_compare (m c m' c' : Int) (w : World) : Calls Try.prog 20 #[.agg #[.int .i64 m, .int .i64 c], .agg #[.int .i64 m', .int .i64 c']] w fun e w' => e = .returned (.int .i64 (cmp2 m c m' c')) ∧ Below w.heap.size w w' := by
  show Calls Try.prog 20 _ w fun e w' => e = .returned (.int .i64 (or2 (cmp1 m m') (cmp1 c c'))) ∧ Below w.heap.size w w'
  go_enter Try.func20, Try.ntmps20
  go_wp2
  go_region_held3 (fun w' => w'.cell? ⟨w.heap.size, 0, none⟩ = some (.int .i64 m) ∧ w'.cell? ⟨w.heap.size, 1, none⟩ = some (.int .i64 c) ∧ w'.cell? ⟨w.heap.size + 1, 0, none⟩ = some (.int .i64 m') ∧ w'.cell? ⟨w.heap.size + 1, 1, none⟩ = some (.int .i64 c')) (simp [go_sem, World.cell?_alloc_past])
    (first
      | (go_at_call 35; refine (cmp_compare _ _ _).mono ?_; rintro e w' ⟨rfl, rfl⟩)
      | (go_at_call 34; refine (cmp_or2 (cmp1 m m') (cmp1 c c') (w.heap.size + 1 + 1) _ (by simp [go_sem]) (by simp [go_sem])).mono ?_; rintro e w' ⟨rfl, rfl⟩))
  go_wp2
  go_ret
  go_light
  exact ⟨rfl, by (repeat' (first | (with_reducible exact Below.refl _ _) | (with_reducible assumption) | (with_reducible refine Below.trans ?_ (Below.mono (by with_reducible assumption) ?_)) | (with_reducible refine Below.alloc ?_ ?_ _) | (with_reducible refine Below.setCell ?_ ?_ _) | (with_reducible refine below_drewN ?_ _) | (with_reducible refine Below.drew ?_) | go_size))⟩
theorem stamp_bd {m c : Int} (h : isStampB m c = true) : 0 ≤ m ∧ m ≤ 281474976710655 ∧ 0 ≤ c ∧ c ≤ 65535 := by
  simp [isStampB, isMilliB] at h; omega
theorem bits_pack (m c : Int) (m0 : 0 ≤ m) (m1 : m ≤ 281474976710655) (c0 : 0 ≤ c) (c1 : c ≤ 65535) : bits .or .u64 (IntKind.u64.wrap (IntKind.u64.wrap m * 65536)) (IntKind.u64.wrap c) = m * 65536 + c := by
  obtain ⟨m, rfl⟩ := Int.eq_ofNat_of_zero_le m0
  obtain ⟨c, rfl⟩ := Int.eq_ofNat_of_zero_le c0
  rw [IntWalk.u64_in (m : Int) (by omega), IntWalk.u64_in (c : Int) (by omega), IntWalk.u64_in ((m : Int) * 65536) (by omega)]
  show IntKind.u64.wrap ((BitVec.ofInt 64 ((m : Int) * 65536) ||| BitVec.ofInt 64 (c : Int)).toNat : Int) = _
  have e1 : (BitVec.ofInt 64 ((m : Int) * 65536)).toNat = m * 65536 := by
    rw [show ((m : Int) * 65536) = ((m * 65536 : Nat) : Int) from by omega, BitVec.ofInt_natCast, BitVec.toNat_ofNat]; exact Nat.mod_eq_of_lt (by omega)
  have e2 : (BitVec.ofInt 64 (c : Int)).toNat = c := by rw [BitVec.ofInt_natCast, BitVec.toNat_ofNat]; exact Nat.mod_eq_of_lt (by omega)
  have e3 : m * 65536 ||| c = m * 65536 + c := by
    have := Nat.two_pow_add_eq_or_of_lt (i := 16) (b := c) (by omega) m
    rw [show m * 65536 = 2 ^ 16 * m from by omega]
    exact this.symm
  rw [BitVec.toNat_or, e1, e2, e3, IntWalk.u64_in _ (by omega)]
  omega
end Go.Proofs.Ytdjhpajmbddffaa
