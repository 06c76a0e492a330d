/- The contract of slew.Clock.Turn; what is known. -/
import Derived.Test.YtblkmakfgehghaaSlewRead
set_option linter.unusedSimpArgs false
set_option linter.unusedVariables false
namespace Go.Proofs.Ytblkmakfgehghaa
open Go.RowKit

set_option maxHeartbeats 1000000 in
/-- At the same count or an elder one, less than a second: what is left is that. -/
theorem slew_turn_old (b : Nat) (c t l n m : Int) (w : World) (k : Ints3 w b c t l) (h : n ≤ c) (m0 : -4611686018427387904 ≤ m) (m1 : m < 1000000000) :
    Calls Try.prog 16 #[.pointer (some ⟨b, 0, none⟩), .int .i64 n, .int .i64 m] w fun e w' => e = .returned (.tuple #[.bool false, .int .i64 0]) ∧ Only b w w' ∧ Ints3 w' b c t m := by
  have k' := k
  obtain ⟨c0, c1, c2, f0, f1, f2, lt⟩ := k'
  go_enter Try.func16, Try.ntmps16
  go_wp2_with (go_at_call 14; refine (slew_read_old b c t l n _ k h).mono ?_; rintro e w' ⟨rfl, rfl⟩)
  go_ret2
  refine ⟨rfl, ?_, ?_⟩
  · go_light
    (repeat' (first | (with_reducible exact Only.refl _ _) | (with_reducible assumption) | (with_reducible refine Only.alloc ?_ _) | (with_reducible refine Only.setB ?_ _) | (refine Only.setCell ?_ (Or.inr ?_) _) | (with_reducible refine Only.drewN ?_ _) | (with_reducible refine Only.drew ?_) | (with_reducible refine Only.trans ?_ (by with_reducible assumption)) | (with_reducible refine Only.trans ?_ (Only.of_below (by with_reducible assumption))) | go_size))
  · go_light
    (repeat' (first | (with_reducible assumption) | (with_reducible apply Ints3.set0) | (with_reducible apply Ints3.set1) | (with_reducible apply Ints3.set2) | (with_reducible refine Ints3.other ?_ ?_ _) | (with_reducible refine Ints3.alloc ?_ _) | (with_reducible refine Ints3.drewN ?_ _) | (with_reducible refine Ints3.drew ?_) | (with_reducible exact Ints3.new _ _ _ _ _) | go_size))
set_option maxHeartbeats 1000000 in
/-- A second or more behind, at the same count or an elder one: it steps. -/
theorem slew_turn_step (b : Nat) (c t l n m : Int) (w : World) (k : Ints3 w b c t l) (h : n ≤ c) (m0 : 1000000000 ≤ m) (m1 : m ≤ 4611686018427387904) (tb : 0 ≤ t ∧ t ≤ 9223372036854775807) :
    Calls Try.prog 16 #[.pointer (some ⟨b, 0, none⟩), .int .i64 n, .int .i64 m] w fun e w' => e = .returned (.tuple #[.bool true, .int .i64 0]) ∧ Only b w w' ∧ Ints3 w' b c (addS t m) 0 := by
  have k' := k
  obtain ⟨c0, c1, c2, f0, f1, f2, lt⟩ := k'
  have l1 : b < w.heap.size + 1 := by omega
  have n0 : w.heap.size ≠ b := by omega
  go_enter Try.func16, Try.ntmps16
  go_wp2_with (go_at_call 14; refine (slew_read_old b c t l n _ k h).mono ?_; rintro e w' ⟨rfl, rfl⟩)
  refine (scale_add2 t m w.heap.size _ (by omega) (by omega) (by simp [go_sem]) (by simp [go_sem])).mono ?_; rintro e w' ⟨rfl, rfl⟩
  go_wp2
  go_ret2
  refine ⟨rfl, ?_, ?_⟩
  · go_light
    (repeat' (first | (with_reducible exact Only.refl _ _) | (with_reducible assumption) | (with_reducible refine Only.alloc ?_ _) | (with_reducible refine Only.setB ?_ _) | (refine Only.setCell ?_ (Or.inr ?_) _) | (with_reducible refine Only.drewN ?_ _) | (with_reducible refine Only.drew ?_) | (with_reducible refine Only.trans ?_ (by with_reducible assumption)) | (with_reducible refine Only.trans ?_ (Only.of_below (by with_reducible assumption))) | go_size))
  · go_light
    (repeat' (first | (with_reducible assumption) | (with_reducible apply Ints3.set0) | (with_reducible apply Ints3.set1) | (with_reducible apply Ints3.set2) | (with_reducible refine Ints3.other ?_ ?_ _) | (with_reducible refine Ints3.alloc ?_ _) | (with_reducible refine Ints3.drewN ?_ _) | (with_reducible refine Ints3.drew ?_) | (with_reducible exact Ints3.new _ _ _ _ _) | go_size))
theorem shown_k1 : shown 0 500 1000000 = 1000500 ∧ turnOf 500 1000000 = 500 ∧ shown 1000500 0 1000000 = 2000500 ∧ turnOf 0 1000000 = 0 := by decide
set_option maxHeartbeats 1000000 in
theorem known8 (w : World) : Calls Try.prog 12 #[] w fun e w' => e = .returned (.bool true) ∧ Below w.heap.size w w' := by
  have HS := Lib.hid shown_k1
  go_enter Try.func12, Try.ntmps12
  go_wp2_with fail
  refine (slew_new_ok 0 0 _ (by decide) (by decide) (by decide)).mono ?_; rintro e w' ⟨rfl, rfl⟩
  have k0 := Ints3.new w 0 0 0 49
  have HB0 : Below w.heap.size w (w.alloc (.cells #[.int .i64 0, .int .i64 0, .int .i64 0] 49)) := by (repeat' (first | (with_reducible exact Below.refl _ _) | (with_reducible assumption) | (with_reducible refine Below.trans ?_ (Below.mono (by with_reducible assumption) ?_)) | (with_reducible refine Below.alloc ?_ ?_ _) | (with_reducible refine Below.setCell ?_ ?_ _) | (with_reducible refine below_drewN ?_ _) | (with_reducible refine Below.drew ?_) | go_size))
  go_wp2_with fail
  refine (slew_turn_old _ 0 0 0 0 500 _ k0 (by decide) (by decide) (by decide)).mono ?_; rintro e w1 ⟨rfl, ho1, k1⟩
  have HB1 : Below w.heap.size w w1 := HB0.trans (ho1.below (Nat.le_refl _) HB0.size)
  go_wp2_with fail
  refine (slew_read_on _ 0 0 500 1000000 _ k1 (by decide) (by decide) (by decide) (by decide) (by decide)).mono ?_; rintro e w2 ⟨rfl, ho2, k2⟩
  have HB2 : Below w.heap.size w w2 := HB1.trans (ho2.below (Nat.le_refl _) HB1.size)
  simp only [Int.sub_zero, HS.out.1, HS.out.2.1, Int.sub_self] at k2 ⊢
  go_wp2_with fail
  refine (slew_read_on _ 1000000 1000500 0 2000000 _ k2 (by decide) (by decide) (by decide) (by decide) (by decide)).mono ?_; rintro e w3 ⟨rfl, ho3, k3⟩
  have HB3 : Below w.heap.size w w3 := HB2.trans (ho3.below (Nat.le_refl _) HB2.size)
  rw [show (2000000 : Int) - 1000000 = 1000000 from rfl, HS.out.2.2.1, HS.out.2.2.2] at k3
  rw [show (2000000 : Int) - 1000000 = 1000000 from rfl, HS.out.2.2.1]
  have k3 : Ints3 w3 w.heap.size 2000000 2000500 0 := k3
  go_wp2_with (go_at_call 18; refine (slew_left _ _ _ _ _ k3).mono ?_; rintro e w' ⟨rfl, rfl⟩)
  go_ret
  go_light
  exact ⟨rfl, HB3⟩
set_option maxHeartbeats 400000 in
theorem slewOfNothing_all (n : Int) (w : World) : Calls Try.prog 7 #[.int .i64 n] w fun e w' => e = .returned (.bool true) ∧ Below w.heap.size w w' := by
  go_enter Try.func7, Try.ntmps7
  go_wp2_with (first | (go_at_call 16; refine (slew_turn_nil _ _ _).mono ?_; rintro e w' ⟨rfl, rfl⟩) | (go_at_call 14; refine (slew_read_nil _ _).mono ?_; rintro e w' ⟨rfl, rfl⟩) | (go_at_call 18; refine (slew_left_nil _).mono ?_; rintro e w' ⟨rfl, rfl⟩) | (go_at_call 10; refine (slew_new_no (-1) 0 _ (Or.inl (by decide))).mono ?_; rintro e w' ⟨rfl, rfl⟩) | (go_at_call 12; refine (known8 _).mono ?_; rintro e w1 ⟨rfl, hb1⟩; obtain ⟨hc1, hf1⟩ := bcell hb1; have hz1 := hb1.size; (try simp only [World.size_alloc, World.size_setCell, World.heap_drewN] at hb1 hc1 hf1 hz1); (try have ha01 : w.heap.size < w1.heap.size := by omega); (try have ha11 : w.heap.size + 1 < w1.heap.size := by omega); (try have ha21 : w.heap.size + 2 < w1.heap.size := by omega); (try have hal1 : w.heap.size ≤ w1.heap.size := by omega); (try have ham1 : w.heap.size < w1.heap.size + 2 := by omega)))
  go_ret
  go_light
  exact ⟨rfl, by (repeat' (first | (with_reducible exact Below.refl _ _) | (with_reducible assumption) | (with_reducible refine Below.trans ?_ (Below.mono (by with_reducible assumption) ?_)) | (with_reducible refine Below.alloc ?_ ?_ _) | (with_reducible refine Below.setCell ?_ ?_ _) | (with_reducible refine below_drewN ?_ _) | (with_reducible refine Below.drew ?_) | go_size))⟩
end Go.Proofs.Ytblkmakfgehghaa
