/- lease.Leases with any number of leases: Open's errors. -/
import Derived.Test.YtacchkokbibeaaaLsClose
set_option linter.unusedSimpArgs false
set_option linter.unusedVariables false
namespace Go.Proofs.Ytacchkokbibeaaa
open Go.RowKit

set_option maxHeartbeats 1000000 in
theorem ls_open_full (b : Nat) (v : Value) (L : List Le) (nx m c u : Int) (w : World) (h : Ls w b v L nx) (hs : isStampB m c = true) (hu : 0 ≤ u) (hl : 64 ≤ L.length) :
    Calls Try.prog 9 #[.pointer (some ⟨b, 0, none⟩), .agg #[.int .i64 m, .int .i64 c], .int .i64 u] w fun e w' => e = .returned (.tuple #[.int .i64 0, .int .i64 6]) ∧ Below w.heap.size w w' := by
  obtain ⟨A, cp, rfl⟩ := h.shape
  have HB0 : Below w.heap.size w (w.alloc (.cells #[.int .i64 m, .int .i64 c] 30)) := by (repeat' (first | (with_reducible exact Below.refl _ _) | (with_reducible assumption) | (with_reducible refine Below.trans ?_ (Below.mono (by with_reducible assumption) ?_)) | (with_reducible refine Below.alloc ?_ ?_ _) | (with_reducible refine Below.setCell ?_ ?_ _) | (with_reducible refine below_drewN ?_ _) | (with_reducible refine Below.drew ?_) | go_size))
  have t1 : decide (u < 0) = false := by simp only [decide_eq_false_iff_not]; omega
  have t2 : decide ((64 : Int) ≤ (L.length : Int)) = true := by simp only [decide_eq_true_eq]; omega
  have c0 := h.c0
  have lb := h.lt
  generalize L.length = n at *
  clear h hu hl
  go_enter Try.func9, Try.ntmps9
  go_wp2_with fail
  refine (hlc_pack_yes m c _ hs).mono ?_; rintro e w1 ⟨rfl, hb1⟩
  have HB1 : Below w.heap.size w w1 := HB0.trans (hb1.mono HB0.size)
  have b0 := (HB1.cell (p := ⟨b, 0, none⟩) lb).trans c0
  clear hb1 c0
  go_wp2
  go_ret2
  exact ⟨rfl, HB1⟩
set_option maxHeartbeats 1000000 in
theorem ls_open_bad (p : Value) (m c u : Int) (w : World) (hp : ∃ b, p = .pointer (some ⟨b, 0, none⟩)) (hs : isStampB m c = false ∨ (isStampB m c = true ∧ u < 0)) :
    Calls Try.prog 9 #[p, .agg #[.int .i64 m, .int .i64 c], .int .i64 u] w fun e w' => e = .returned (.tuple #[.int .i64 0, .int .i64 1]) ∧ Below w.heap.size w w' := by
  obtain ⟨b, rfl⟩ := hp
  have HB0 : Below w.heap.size w (w.alloc (.cells #[.int .i64 m, .int .i64 c] 30)) := by (repeat' (first | (with_reducible exact Below.refl _ _) | (with_reducible assumption) | (with_reducible refine Below.trans ?_ (Below.mono (by with_reducible assumption) ?_)) | (with_reducible refine Below.alloc ?_ ?_ _) | (with_reducible refine Below.setCell ?_ ?_ _) | (with_reducible refine below_drewN ?_ _) | (with_reducible refine Below.drew ?_) | go_size))
  rcases hs with hs | ⟨hs, hu⟩
  · go_enter Try.func9, Try.ntmps9
    go_wp2_with fail
    refine (hlc_pack_no m c _ hs).mono ?_; rintro e w1 ⟨rfl, hb1⟩
    have HB1 : Below w.heap.size w w1 := HB0.trans (hb1.mono HB0.size)
    clear hb1
    go_wp2
    go_ret2
    exact ⟨rfl, HB1⟩
  · have t1 : decide (u < 0) = true := by simpa using hu
    clear hu
    go_enter Try.func9, Try.ntmps9
    go_wp2_with fail
    refine (hlc_pack_yes m c _ hs).mono ?_; rintro e w1 ⟨rfl, hb1⟩
    have HB1 : Below w.heap.size w w1 := HB0.trans (hb1.mono HB0.size)
    clear hb1
    go_wp2
    go_ret2
    exact ⟨rfl, HB1⟩
end Go.Proofs.Ytacchkokbibeaaa
