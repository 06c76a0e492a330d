/- Both clocks, Read and Turn, at any numbers. -/
import Derived.Test.YtepdnkpmkhjlgaaGreatRef8Read
set_option linter.unusedSimpArgs false
set_option linter.unusedVariables false
namespace Go.Proofs.YtepdnkpmkhjlgaaGreat
open Go.RowKit

theorem ref8_read_old (b : Nat) (c t l n : Int) (w : World) (k : Ints3 w b c t l) (h : n ≤ c) : Calls Tryz.prog 33 #[.pointer (some ⟨b, 0, none⟩), .int .i64 n] w fun e w' => e = .returned (.int .i64 t) ∧ w = w' := by
  obtain ⟨c0, c1, c2, f0, f1, f2, lt⟩ := k
  go_enter Tryz.func33, Tryz.ntmps33
  go_wp2
  go_ret
  exact ⟨rfl, rfl⟩
theorem ref8_read_all (b : Nat) (c t l n : Int) (w : World) (k : Ints3 w b c t l) (h : Ok3 c t l) (hn : n ≤ 9223372036854775807) :
    Calls Tryz.prog 33 #[.pointer (some ⟨b, 0, none⟩), .int .i64 n] w fun e w' => e = .returned (.int .i64 (rt c t l n)) ∧ Only b w w' ∧ Ints3 w' b (rc c n) (rt c t l n) (rl c l n) := by
  obtain ⟨c0, c1, t0, t1, l0, l1⟩ := h
  unfold rc rt rl
  by_cases hc : c < n
  · simp only [if_pos hc]
    exact ref8_read_on b c t l n w k hc c0 hn ⟨t0, t1⟩ ⟨l0, l1⟩
  · simp only [if_neg hc]
    exact (ref8_read_old b c t l n w k (by omega)).mono fun e w' ⟨he, hw⟩ => by subst hw; exact ⟨he, Only.refl _ _, k⟩
theorem ref8_turn_bad (b : Nat) (n m : Int) (w : World) (h : m < -4611686018427387904 ∨ (-4611686018427387904 ≤ m ∧ 4611686018427387904 < m)) :
    Calls Tryz.prog 77 #[.pointer (some ⟨b, 0, none⟩), .int .i64 n, .int .i64 m] w fun e w' => e = .returned (.tuple #[.bool false, .int .i64 1]) ∧ w = w' := by
  rcases h with h | ⟨h1, h⟩
  · go_enter Tryz.func77, Tryz.ntmps77
    go_wp2
    go_ret2
    exact ⟨rfl, rfl⟩
  · go_enter Tryz.func77, Tryz.ntmps77
    go_wp2
    go_ret2
    exact ⟨rfl, rfl⟩
set_option maxHeartbeats 2000000 in
theorem ref8_turn_all (b : Nat) (c t l n m : Int) (w : World) (k : Ints3 w b c t l) (h : Ok3 c t l) (hn : n ≤ 9223372036854775807) (m0 : -4611686018427387904 ≤ m) (m1 : m ≤ 4611686018427387904) :
    Calls Tryz.prog 77 #[.pointer (some ⟨b, 0, none⟩), .int .i64 n, .int .i64 m] w fun e w' => e = .returned (.tuple #[.bool (decide (1000000000 ≤ m)), .int .i64 0]) ∧ Only b w w' ∧ Ints3 w' b (rc c n) (tt (rt c t l n) m) (tl m) := by
  have r := ref8_read_all b c t l n w k h hn
  have ok := ok_read h hn
  generalize rc c n = C at *
  generalize rt c t l n = T at *
  generalize rl c l n = L at *
  obtain ⟨⟨c0, c1, t0, t1, l0, l1⟩, _⟩ := ok
  unfold tt tl
  by_cases hc : 1000000000 ≤ m
  · simp only [if_pos hc]
    have hd : decide (1000000000 ≤ m) = true := by simpa using hc
    rw [hd]
    have R := Lib.hid r
    have l1' := k.lt
    clear r hd
    go_enter Tryz.func77, Tryz.ntmps77
    go_wp2_with fail
    refine R.out.mono ?_; rintro e w2 ⟨rfl, ho, k2⟩
    have k2' := k2
    obtain ⟨x0, x1, x2, f0, f1, f2, lt⟩ := k2'
    have n0 : w2.heap.size ≠ b := by omega
    go_wp2_with fail
    refine (ref4_add2 T m w2.heap.size _ (by omega) (by omega) (by simp [go_sem]) (by simp [go_sem])).mono ?_; rintro e w' ⟨rfl, rfl⟩
    go_wp2
    go_ret2
    refine ⟨rfl, ?_, ?_⟩
    · go_light
      (repeat' (first | (with_reducible exact Only.refl _ _) | (with_reducible assumption) | (with_reducible refine Only.alloc ?_ _) | (with_reducible refine Only.setB ?_ _) | (refine Only.setCell ?_ (Or.inr ?_) _) | (with_reducible refine Only.drewN ?_ _) | (with_reducible refine Only.drew ?_) | (with_reducible refine Only.trans ?_ (by with_reducible assumption)) | (with_reducible refine Only.trans ?_ (Only.of_below (by with_reducible assumption))) | go_size))
    · go_light
      (repeat' (first | (with_reducible assumption) | (with_reducible apply Ints3.set0) | (with_reducible apply Ints3.set1) | (with_reducible apply Ints3.set2) | (with_reducible refine Ints3.other ?_ ?_ _) | (with_reducible refine Ints3.alloc ?_ _) | (with_reducible refine Ints3.drewN ?_ _) | (with_reducible refine Ints3.drew ?_) | (with_reducible exact Ints3.new _ _ _ _ _) | go_size))
  · simp only [if_neg hc]
    have hd : decide (1000000000 ≤ m) = false := by simpa using hc
    rw [hd]
    have R := Lib.hid r
    have hc' : m < 1000000000 := by omega
    clear r hd hc
    go_enter Tryz.func77, Tryz.ntmps77
    go_wp2_with fail
    refine R.out.mono ?_; rintro e w2 ⟨rfl, ho, k2⟩
    have k2' := k2
    obtain ⟨x0, x1, x2, f0, f1, f2, lt⟩ := k2'
    go_wp2
    go_ret2
    refine ⟨rfl, ?_, ?_⟩
    · go_light
      (repeat' (first | (with_reducible exact Only.refl _ _) | (with_reducible assumption) | (with_reducible refine Only.alloc ?_ _) | (with_reducible refine Only.setB ?_ _) | (refine Only.setCell ?_ (Or.inr ?_) _) | (with_reducible refine Only.drewN ?_ _) | (with_reducible refine Only.drew ?_) | (with_reducible refine Only.trans ?_ (by with_reducible assumption)) | (with_reducible refine Only.trans ?_ (Only.of_below (by with_reducible assumption))) | go_size))
    · go_light
      (repeat' (first | (with_reducible assumption) | (with_reducible apply Ints3.set0) | (with_reducible apply Ints3.set1) | (with_reducible apply Ints3.set2) | (with_reducible refine Ints3.other ?_ ?_ _) | (with_reducible refine Ints3.alloc ?_ _) | (with_reducible refine Ints3.drewN ?_ _) | (with_reducible refine Ints3.drew ?_) | (with_reducible exact Ints3.new _ _ _ _ _) | go_size))
/-- Both turn alike. -/
theorem turn_pair (c t l n m : Int) (h : Ok3 c t l) (hn : n ≤ 9223372036854775807) : ∃ (s : Bool) (e c' t' l' : Int), Ok3 c' t' l' ∧
    (∀ (b : Nat) (w : World), Ints3 w b c t l → Calls Tryz.prog 71 #[.pointer (some ⟨b, 0, none⟩), .int .i64 n, .int .i64 m] w fun x w' => x = .returned (.tuple #[.bool s, .int .i64 e]) ∧ Only b w w' ∧ Ints3 w' b c' t' l') ∧
    (∀ (b : Nat) (w : World), Ints3 w b c t l → Calls Tryz.prog 77 #[.pointer (some ⟨b, 0, none⟩), .int .i64 n, .int .i64 m] w fun x w' => x = .returned (.tuple #[.bool s, .int .i64 e]) ∧ Only b w w' ∧ Ints3 w' b c' t' l') := by
  by_cases hm : -4611686018427387904 ≤ m ∧ m ≤ 4611686018427387904
  · obtain ⟨o1, u1⟩ := ok_read h hn
    obtain ⟨o2, u2⟩ := ok_turn o1 hm
    exact ⟨_, _, _, _, _, o2, fun b w k => slew_turn_all b c t l n m w k h hn hm.1 hm.2, fun b w k => ref8_turn_all b c t l n m w k h hn hm.1 hm.2⟩
  · exact ⟨_, _, c, t, l, h, fun b w k => (slew_turn_bad b n m w (by omega)).mono fun e w' ⟨he, hw⟩ => by subst hw; exact ⟨he, Only.refl _ _, k⟩,
      fun b w k => (ref8_turn_bad b n m w (by omega)).mono fun e w' ⟨he, hw⟩ => by subst hw; exact ⟨he, Only.refl _ _, k⟩⟩
/-- Both read alike. -/
theorem read_pair (c t l n : Int) (h : Ok3 c t l) (hn : n ≤ 9223372036854775807) : ∃ (v c' t' l' : Int), Ok3 c' t' l' ∧
    (∀ (b : Nat) (w : World), Ints3 w b c t l → Calls Tryz.prog 21 #[.pointer (some ⟨b, 0, none⟩), .int .i64 n] w fun x w' => x = .returned (.int .i64 v) ∧ Only b w w' ∧ Ints3 w' b c' t' l') ∧
    (∀ (b : Nat) (w : World), Ints3 w b c t l → Calls Tryz.prog 33 #[.pointer (some ⟨b, 0, none⟩), .int .i64 n] w fun x w' => x = .returned (.int .i64 v) ∧ Only b w w' ∧ Ints3 w' b c' t' l') := by
  obtain ⟨o1, u1⟩ := ok_read h hn
  exact ⟨_, _, _, _, o1, fun b w k => slew_read_all b c t l n w k h hn, fun b w k => ref8_read_all b c t l n w k h hn⟩
def laterV (c n : Int) : Int := if n < 0 ∨ 1125899906842624 < n then c else if c ≤ 1152921504606846976 then c + n else 1152921504606846976 + n
theorem laterV_bd (c n : Int) (h : c ≤ 9223372036854775807) : laterV c n ≤ 9223372036854775807 := by unfold laterV; split <;> (try split) <;> omega
end Go.Proofs.YtepdnkpmkhjlgaaGreat
