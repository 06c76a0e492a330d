/- leap.Length of a table. -/
import Derived.Test.YtklahiogcpojmaaLeapOff
set_option linter.unusedSimpArgs false
set_option linter.unusedVariables false
namespace Go.Proofs.Ytklahiogcpojmaa
open Go.RowKit

set_option maxHeartbeats 4000000 in
theorem leap_length_yes (A : Option Addr) (n c : Nat) (x day : Int) (z : Nat → Int) (w : World) (hz : FlatAt w A 2 n z) (ht : IsTab z n x) (d0 : -9223372036854775808 ≤ day) (d1 : day < 9223372036854775807) :
    Calls Try.prog 33 #[.agg #[.slice A n c, .int .i64 x], .int .i64 day] w fun e w' => e = .returned (.int .i64 (86400 + offK z (day + 1) n - offK z day n)) ∧ Below w.heap.size w w' := by
  have HB0 : Below w.heap.size w (w.alloc (.cells #[.slice A n c, .int .i64 x] 30)) := by (repeat' (first | (with_reducible exact Below.refl _ _) | (with_reducible assumption) | (with_reducible refine Below.trans ?_ (Below.mono (by with_reducible assumption) ?_)) | (with_reducible refine Below.alloc ?_ ?_ _) | (with_reducible refine Below.setCell ?_ ?_ _) | (with_reducible refine below_drewN ?_ _) | (with_reducible refine Below.drew ?_) | go_size))
  have n1 := ht.1
  have n100 := ht.2.1
  have b0 := offK_bd ht day n (Nat.le_refl _)
  have b1 := offK_bd ht (day + 1) n (Nat.le_refl _)
  have HT := Lib.hid ht
  have HZ := Lib.hid hz
  clear hz ht
  have dd : day < day + 1 := by omega
  go_enter Try.func33, Try.ntmps33
  go_wp2_with fail
  refine (leap_is_yes A n c x z _ (HZ.out.below HB0) HT.out).mono ?_; rintro e w1 ⟨rfl, hb1⟩
  have HB1 : Below w.heap.size w w1 := HB0.trans (hb1.mono HB0.size)
  have q0 : w1.cell? ⟨w.heap.size, 0, none⟩ = some (.slice A n c) := (hb1.cell (p := ⟨w.heap.size, 0, none⟩) (by simp)).trans (by simp)
  have q1 : w1.cell? ⟨w.heap.size, 1, none⟩ = some (.int .i64 x) := (hb1.cell (p := ⟨w.heap.size, 1, none⟩) (by simp)).trans (by simp)
  have l1 : w.heap.size < w1.heap.size := by have := hb1.size; simp at this; omega
  clear hb1
  have s1 : IntKind.i64.wrap (86400 + offK z (day + 1) n) = 86400 + offK z (day + 1) n := IntWalk.i64_in _ (by omega)
  have s2 : IntKind.i64.wrap (86400 + offK z (day + 1) n - offK z day n) = 86400 + offK z (day + 1) n - offK z day n := IntWalk.i64_in _ (by omega)
  generalize hO1 : offK z (day + 1) n = o1 at *
  generalize hO0 : offK z day n = o0 at *
  have H1 := Lib.hid hO1
  have H0 := Lib.hid hO0
  have S1 := Lib.hid s1
  have S2 := Lib.hid s2
  clear hO1 hO0 s1 s2
  go_wp2
  go_region_held3 (fun w' => w'.cell? ⟨w.heap.size, 0, none⟩ = some (.slice A n c) ∧ w'.cell? ⟨w.heap.size, 1, none⟩ = some (.int .i64 x)) (first | exact ⟨q0, q1⟩ | exact ⟨q3, q4⟩)
    (first | (go_at_call 45; refine (leap_off A n c x _ z _ (HZ.out.below (by (repeat' (first | (with_reducible exact Below.refl _ _) | (with_reducible assumption) | (with_reducible refine Below.trans ?_ (Below.mono (by with_reducible assumption) ?_)) | (with_reducible refine Below.alloc ?_ ?_ _) | (with_reducible refine Below.setCell ?_ ?_ _) | (with_reducible refine below_drewN ?_ _) | (with_reducible refine Below.drew ?_) | go_size)))) n1 (by omega)).mono ?_; rintro e w3 ⟨rfl, hb3⟩; (first | rw [H1.out] | rw [H0.out]); have q5 := (hb3.cell (p := ⟨w.heap.size, 0, none⟩) (by first | exact l1 | exact l3)).trans (by first | exact q0 | exact q3); have q4 := (hb3.cell (p := ⟨w.heap.size, 1, none⟩) (by first | exact l1 | exact l3)).trans (by first | exact q1 | exact q4); have q3 := q5; have l4 : w.heap.size < w3.heap.size := Nat.lt_of_lt_of_le (by first | exact l1 | exact l3) hb3.size; have l3 := l4; have HB3 : Below w.heap.size w w3 := Below.trans (by (repeat' (first | (with_reducible exact Below.refl _ _) | (with_reducible assumption) | (with_reducible refine Below.trans ?_ (Below.mono (by with_reducible assumption) ?_)) | (with_reducible refine Below.alloc ?_ ?_ _) | (with_reducible refine Below.setCell ?_ ?_ _) | (with_reducible refine below_drewN ?_ _) | (with_reducible refine Below.drew ?_) | go_size))) (hb3.mono (Below.size (show Below w.heap.size w _ from (by (repeat' (first | (with_reducible exact Below.refl _ _) | (with_reducible assumption) | (with_reducible refine Below.trans ?_ (Below.mono (by with_reducible assumption) ?_)) | (with_reducible refine Below.alloc ?_ ?_ _) | (with_reducible refine Below.setCell ?_ ?_ _) | (with_reducible refine below_drewN ?_ _) | (with_reducible refine Below.drew ?_) | go_size))))))))
  go_wp2
  go_ret
  exact ⟨ret_int (by rw [S1.out, S2.out, H1.out, H0.out]), HB3⟩
end Go.Proofs.Ytklahiogcpojmaa
