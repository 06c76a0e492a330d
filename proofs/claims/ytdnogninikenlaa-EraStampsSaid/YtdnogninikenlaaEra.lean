/- The contracts of package era: small ones, and Stamp. -/
import Derived.Test.YtdnogninikenlaaCalDate
import Derived.Test.YtdnogninikenlaaRef2In
set_option linter.unusedSimpArgs false
set_option linter.unusedVariables false
namespace Go.Proofs.Ytdnogninikenlaa
open Go.RowKit

theorem ret_two {k : IntKind} {a b : Int} {v : Value} (h : a = b) : Ending.returned (.tuple #[.int k a, v]) = .returned (.tuple #[.int k b, v]) := by rw [h]
/-- Is a count a day's? -/
def dayB (n : Int) : Bool := decide (-719162 ≤ n) && decide (n ≤ 2932896)
theorem dayB_yes {n : Int} (h : dayB n = true) : -719162 ≤ n ∧ n ≤ 2932896 := by simpa [dayB] using h
theorem dayB_no {n : Int} (h : dayB n = false) : n < -719162 ∨ 2932896 < n := by
  by_cases h1 : -719162 ≤ n
  · by_cases h2 : n ≤ 2932896
    · simp [dayB, h1, h2] at h
    · exact .inr (by omega)
  · exact .inl (by omega)
theorem dayB_mk {n : Int} (h1 : -719162 ≤ n) (h2 : n ≤ 2932896) : dayB n = true := by simp [dayB, h1, h2]
theorem era_isDay (n : Int) (w : World) : Calls Try.prog 14 #[.int .i64 n] w fun e w' => e = .returned (.bool (dayB n)) ∧ Below w.heap.size w w' := by
  cases h : dayB n
  · have H := Lib.hid (dayB_no h)
    clear h
    go_enter Try.func14, Try.ntmps14
    go_wp2_with (go_at_call 20; refine (cal_date_no n _ H.out).mono ?_; rintro e w1 ⟨rfl, hb1⟩; obtain ⟨hc1, hf1⟩ := bcell hb1; have hz1 := hb1.size; (try simp only [World.size_alloc, World.size_setCell, World.heap_drewN] at hb1 hc1 hf1 hz1); (try have ha01 : w.heap.size < w1.heap.size := by omega); (try have ha11 : w.heap.size + 1 < w1.heap.size := by omega); (try have ha21 : w.heap.size + 2 < w1.heap.size := by omega); (try have hal1 : w.heap.size ≤ w1.heap.size := by omega); (try have ham1 : w.heap.size < w1.heap.size + 2 := by omega))
    go_ret
    go_light
    exact ⟨rfl, by (repeat' (first | (with_reducible exact Below.refl _ _) | (with_reducible assumption) | (with_reducible refine Below.trans ?_ (Below.mono (by with_reducible assumption) ?_)) | (with_reducible refine Below.alloc ?_ ?_ _) | (with_reducible refine Below.setCell ?_ ?_ _) | (with_reducible refine below_drewN ?_ _) | (with_reducible refine Below.drew ?_) | go_size))⟩
  · obtain ⟨y, m, d, v, hn⟩ := Cal.date_ex n (dayB_yes h).1 (dayB_yes h).2
    have V := Lib.hid v
    have HN := Lib.hid hn
    clear v hn h
    go_enter Try.func14, Try.ntmps14
    go_wp2_with (go_at_call 20; refine (cal_date_yes y m d n _ V.out HN.out.symm).mono ?_; rintro e w1 ⟨rfl, hb1⟩; obtain ⟨hc1, hf1⟩ := bcell hb1; have hz1 := hb1.size; (try simp only [World.size_alloc, World.size_setCell, World.heap_drewN] at hb1 hc1 hf1 hz1); (try have ha01 : w.heap.size < w1.heap.size := by omega); (try have ha11 : w.heap.size + 1 < w1.heap.size := by omega); (try have ha21 : w.heap.size + 2 < w1.heap.size := by omega); (try have hal1 : w.heap.size ≤ w1.heap.size := by omega); (try have ham1 : w.heap.size < w1.heap.size + 2 := by omega))
    go_ret
    go_light
    exact ⟨rfl, by (repeat' (first | (with_reducible exact Below.refl _ _) | (with_reducible assumption) | (with_reducible refine Below.trans ?_ (Below.mono (by with_reducible assumption) ?_)) | (with_reducible refine Below.alloc ?_ ?_ _) | (with_reducible refine Below.setCell ?_ ?_ _) | (with_reducible refine below_drewN ?_ _) | (with_reducible refine Below.drew ?_) | go_size))⟩
theorem tmod_bd (n b : Int) (hb : 0 < b) : -b < n.tmod b ∧ n.tmod b < b := by
  have := Int.emod_nonneg n (show b ≠ 0 by omega)
  have := Int.emod_lt_of_pos n hb
  rw [Int.tmod_eq_emod]
  split <;> omega
theorem tmod_fix (n b : Int) (hb : 0 < b) : (n.tmod b + b) % b = n % b := by
  rw [Int.add_emod_right]
  rw [Int.tmod_eq_emod]
  split
  · simp
  · rw [show (b.natAbs : Int) = b from by omega, Int.sub_emod_right, Int.emod_emod_of_dvd _ (Int.dvd_refl b)]
theorem era_modulo (n b : Int) (w : World) (h0 : 1 ≤ b) (h1 : b ≤ 4294967296) : Calls Try.prog 15 #[.int .i64 n, .int .i64 b] w fun e w' => e = .returned (.int .i64 (n % b)) ∧ w = w' := by
  have t := tmod_bd n b (by omega)
  have HF := Lib.hid (tmod_fix n b (by omega))
  have hb0 : (b == 0) = false := by simp; omega
  go_enter Try.func15, Try.ntmps15
  go_wp2
  go_ret
  exact ⟨ret_int HF.out, rfl⟩
theorem era_begins (n : Int) (w : World) (h0 : -719162 ≤ n) (h1 : n ≤ 2932896) : Calls Try.prog 16 #[.int .i64 n] w fun e w' => e = .returned (.int .i64 ((n + 25567) * 86400)) ∧ w = w' := by
  go_enter Try.func16, Try.ntmps16
  go_wp2
  go_ret
  exact ⟨rfl, rfl⟩
end Go.Proofs.Ytdnogninikenlaa
