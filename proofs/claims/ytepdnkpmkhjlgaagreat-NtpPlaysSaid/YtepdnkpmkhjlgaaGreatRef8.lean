/- The reference's clock, and slew.Clock, at any count. -/
import Derived.Test.YtepdnkpmkhjlgaaGreatM9J
import Derived.Test.YtepdnkpmkhjlgaaGreatRef4Add
set_option linter.unusedSimpArgs false
set_option linter.unusedVariables false
namespace Go.Proofs.YtepdnkpmkhjlgaaGreat
open Go.RowKit

/-- Numbers that a clock may hold. -/
def Ok3 (c t l : Int) : Prop := 0 ≤ c ∧ c ≤ 9223372036854775807 ∧ 0 ≤ t ∧ t ≤ 9223372036854775807 ∧ -4611686018427387904 ≤ l ∧ l ≤ 4611686018427387904
/-- What a clock holds behind a Read. -/
def rc (c n : Int) : Int := if c < n then n else c
def rt (c t l n : Int) : Int := if c < n then shown t l (n - c) else t
def rl (c l n : Int) : Int := if c < n then l - turnOf l (n - c) else l
theorem turn_bd (l g : Int) (hg : 0 ≤ g) : -(g / 2000) ≤ turnOf l g ∧ turnOf l g ≤ g / 2000 ∧ (0 ≤ l → 0 ≤ turnOf l g ∧ turnOf l g ≤ l) ∧ (l ≤ 0 → l ≤ turnOf l g ∧ turnOf l g ≤ 0) := by
  unfold turnOf
  split
  · omega
  · split <;> omega
theorem shown_up (t l g : Int) (ht : 0 ≤ t ∧ t ≤ 9223372036854775807) (hg : 0 ≤ g ∧ g ≤ 9223372036854775807) : t ≤ shown t l g ∧ shown t l g ≤ 9223372036854775807 := by
  have hb := turn_bd l g hg.1
  unfold shown
  have h1 : 0 ≤ addS g (turnOf l g) := by unfold addS; split <;> (try split) <;> omega
  have h2 := addS_bd g (turnOf l g)
  have h3 := addS_bd t (addS g (turnOf l g))
  refine ⟨?_, h3.2⟩
  unfold addS at h1 ⊢
  split <;> (try split) <;> (try split) <;> omega
theorem ok_read {c t l n : Int} (h : Ok3 c t l) (hn : n ≤ 9223372036854775807) : Ok3 (rc c n) (rt c t l n) (rl c l n) ∧ t ≤ rt c t l n := by
  obtain ⟨c0, c1, t0, t1, l0, l1⟩ := h
  unfold Ok3 rc rt rl
  by_cases hc : c < n
  · have hs := shown_up t l (n - c) ⟨t0, t1⟩ ⟨by omega, by omega⟩
    have hb := turn_bd l (n - c) (by omega)
    simp only [if_pos hc]
    refine ⟨⟨by omega, hn, by omega, hs.2, ?_, ?_⟩, hs.1⟩ <;> omega
  · simp only [if_neg hc]
    exact ⟨⟨c0, c1, t0, t1, l0, l1⟩, by omega⟩
theorem slew_read_all (b : Nat) (c t l n : Int) (w : World) (k : Ints3 w b c t l) (h : Ok3 c t l) (hn : n ≤ 9223372036854775807) :
    Calls Tryz.prog 21 #[.pointer (some ⟨b, 0, none⟩), .int .i64 n] w fun e w' => e = .returned (.int .i64 (rt c t l n)) ∧ Only b w w' ∧ Ints3 w' b (rc c n) (rt c t l n) (rl c l n) := by
  obtain ⟨c0, c1, t0, t1, l0, l1⟩ := h
  unfold rc rt rl
  by_cases hc : c < n
  · simp only [if_pos hc]
    exact slew_read_on b c t l n w k hc c0 hn ⟨t0, t1⟩ ⟨l0, l1⟩
  · simp only [if_neg hc]
    exact (slew_read_old b c t l n w k (by omega)).mono fun e w' ⟨he, hw⟩ => by subst hw; exact ⟨he, Only.refl _ _, k⟩
/-- What a clock holds behind a Turn. -/
def tt (t m : Int) : Int := if 1000000000 ≤ m then addS t m else t
def tl (m : Int) : Int := if 1000000000 ≤ m then 0 else m
theorem ok_turn {c t l m : Int} (h : Ok3 c t l) (hm : -4611686018427387904 ≤ m ∧ m ≤ 4611686018427387904) : Ok3 c (tt t m) (tl m) ∧ t ≤ tt t m := by
  obtain ⟨c0, c1, t0, t1, l0, l1⟩ := h
  unfold Ok3 tt tl
  have h3 := addS_bd t m
  by_cases hc : 1000000000 ≤ m
  · simp only [if_pos hc]
    have : t ≤ addS t m := by unfold addS; split <;> (try split) <;> omega
    exact ⟨⟨c0, c1, by omega, h3.2, by omega, by omega⟩, this⟩
  · simp only [if_neg hc]
    exact ⟨⟨c0, c1, t0, t1, hm.1, hm.2⟩, by omega⟩
set_option maxHeartbeats 1000000 in
theorem slew_turn_bad (b : Nat) (n m : Int) (w : World) (h : m < -4611686018427387904 ∨ (-4611686018427387904 ≤ m ∧ 4611686018427387904 < m)) :
    Calls Tryz.prog 71 #[.pointer (some ⟨b, 0, none⟩), .int .i64 n, .int .i64 m] w fun e w' => e = .returned (.tuple #[.bool false, .int .i64 1]) ∧ w = w' := by
  rcases h with h | ⟨h1, h⟩
  · go_enter Tryz.func71, Tryz.ntmps71
    go_wp2
    go_ret2
    exact ⟨rfl, rfl⟩
  · go_enter Tryz.func71, Tryz.ntmps71
    go_wp2
    go_ret2
    exact ⟨rfl, rfl⟩
set_option maxHeartbeats 2000000 in
theorem slew_turn_all (b : Nat) (c t l n m : Int) (w : World) (k : Ints3 w b c t l) (h : Ok3 c t l) (hn : n ≤ 9223372036854775807) (m0 : -4611686018427387904 ≤ m) (m1 : m ≤ 4611686018427387904) :
    Calls Tryz.prog 71 #[.pointer (some ⟨b, 0, none⟩), .int .i64 n, .int .i64 m] w fun e w' => e = .returned (.tuple #[.bool (decide (1000000000 ≤ m)), .int .i64 0]) ∧ Only b w w' ∧ Ints3 w' b (rc c n) (tt (rt c t l n) m) (tl m) := by
  have r := slew_read_all b c t l n w k h hn
  have ok := ok_read h hn
  generalize rc c n = C at *
  generalize rt c t l n = T at *
  generalize rl c l n = L at *
  obtain ⟨⟨c0, c1, t0, t1, l0, l1⟩, _⟩ := ok
  unfold tt tl
  by_cases hc : 1000000000 ≤ m
  · simp only [if_pos hc]
    have hd : decide (1000000000 ≤ m) = true := by simpa using hc
    rw [hd]
    have R := Lib.hid r
    have l1' := k.lt
    clear r hd
    go_enter Tryz.func71, Tryz.ntmps71
    go_wp2_with fail
    refine R.out.mono ?_; rintro e w2 ⟨rfl, ho, k2⟩
    have k2' := k2
    obtain ⟨x0, x1, x2, f0, f1, f2, lt⟩ := k2'
    have n0 : w2.heap.size ≠ b := by omega
    go_wp2_with fail
    refine (scale_add2 T m w2.heap.size _ (by omega) (by omega) (by simp [go_sem]) (by simp [go_sem])).mono ?_; rintro e w' ⟨rfl, rfl⟩
    go_wp2
    go_ret2
    refine ⟨rfl, ?_, ?_⟩
    · go_light
      (repeat' (first | (with_reducible exact Only.refl _ _) | (with_reducible assumption) | (with_reducible refine Only.alloc ?_ _) | (with_reducible refine Only.setB ?_ _) | (refine Only.setCell ?_ (Or.inr ?_) _) | (with_reducible refine Only.drewN ?_ _) | (with_reducible refine Only.drew ?_) | (with_reducible refine Only.trans ?_ (by with_reducible assumption)) | (with_reducible refine Only.trans ?_ (Only.of_below (by with_reducible assumption))) | go_size))
    · go_light
      (repeat' (first | (with_reducible assumption) | (with_reducible apply Ints3.set0) | (with_reducible apply Ints3.set1) | (with_reducible apply Ints3.set2) | (with_reducible refine Ints3.other ?_ ?_ _) | (with_reducible refine Ints3.alloc ?_ _) | (with_reducible refine Ints3.drewN ?_ _) | (with_reducible refine Ints3.drew ?_) | (with_reducible exact Ints3.new _ _ _ _ _) | go_size))
  · simp only [if_neg hc]
    have hd : decide (1000000000 ≤ m) = false := by simpa using hc
    rw [hd]
    have R := Lib.hid r
    have hc' : m < 1000000000 := by omega
    clear r hd hc
    go_enter Tryz.func71, Tryz.ntmps71
    go_wp2_with fail
    refine R.out.mono ?_; rintro e w2 ⟨rfl, ho, k2⟩
    have k2' := k2
    obtain ⟨x0, x1, x2, f0, f1, f2, lt⟩ := k2'
    go_wp2
    go_ret2
    refine ⟨rfl, ?_, ?_⟩
    · go_light
      (repeat' (first | (with_reducible exact Only.refl _ _) | (with_reducible assumption) | (with_reducible refine Only.alloc ?_ _) | (with_reducible refine Only.setB ?_ _) | (refine Only.setCell ?_ (Or.inr ?_) _) | (with_reducible refine Only.drewN ?_ _) | (with_reducible refine Only.drew ?_) | (with_reducible refine Only.trans ?_ (by with_reducible assumption)) | (with_reducible refine Only.trans ?_ (Only.of_below (by with_reducible assumption))) | go_size))
    · go_light
      (repeat' (first | (with_reducible assumption) | (with_reducible apply Ints3.set0) | (with_reducible apply Ints3.set1) | (with_reducible apply Ints3.set2) | (with_reducible refine Ints3.other ?_ ?_ _) | (with_reducible refine Ints3.alloc ?_ _) | (with_reducible refine Ints3.drewN ?_ _) | (with_reducible refine Ints3.drew ?_) | (with_reducible exact Ints3.new _ _ _ _ _) | go_size))
theorem ref8_new_ok (c t : Int) (w : World) (h1 : 0 ≤ c) (h2 : 0 ≤ t) (h3 : t ≤ 4611686018427387904) : Calls Tryz.prog 57 #[.int .i64 c, .int .i64 t] w fun e w' => e = .returned (.tuple #[.pointer (some ⟨w.heap.size, 0, none⟩), .int .i64 0]) ∧ w' = w.alloc (.cells #[.int .i64 c, .int .i64 t, .int .i64 0] 84) := by
  go_enter Tryz.func57, Tryz.ntmps57
  go_wp2
  go_ret2
  exact ⟨rfl, rfl⟩
end Go.Proofs.YtepdnkpmkhjlgaaGreat
