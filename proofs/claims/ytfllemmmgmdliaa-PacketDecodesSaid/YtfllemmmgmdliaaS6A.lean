/- Stage 6: PacketApart. -/
import Derived.Test.YtfllemmmgmdliaaPkKnown
import Derived.Test.YtfllemmmgmdliaaLaw
set_option linter.unusedSimpArgs false
set_option linter.unusedVariables false
namespace Go.Proofs.Ytfllemmmgmdliaa
open Go.ChangeShapes Go.WideShapes Go.ChangeAt Go.RowKit Go.Joins

theorem isP_bd {l m s d r : Int} (h : isP l m s d r = true) : (0 ≤ l ∧ l ≤ 3) ∧ (3 ≤ m ∧ m ≤ 4) ∧ (0 ≤ s ∧ s ≤ 255) ∧ (0 ≤ d ∧ d ≤ 4294967295) ∧ (0 ≤ r ∧ r ≤ 4294967295) := by
  unfold isP at h
  simp only [Bool.and_eq_true] at h
  obtain ⟨h1, h2, h3, h4, h5⟩ := h
  exact ⟨inN_bd h1, inN_bd h2, inN_bd h3, inN_bd h4, inN_bd h5⟩
theorem byte4 {x y : Int} (x0 : 0 ≤ x) (x1 : x < 4294967296) (y0 : 0 ≤ y) (y1 : y < 4294967296) (h0 : x / 256 ^ 3 % 256 = y / 256 ^ 3 % 256) (h1 : x / 256 ^ 2 % 256 = y / 256 ^ 2 % 256) (h2 : x / 256 ^ 1 % 256 = y / 256 ^ 1 % 256) (h3 : x / 256 ^ 0 % 256 = y / 256 ^ 0 % 256) : x = y := by
  simp only [show (256 : Int) ^ 3 = 16777216 from rfl, show (256 : Int) ^ 2 = 65536 from rfl, show (256 : Int) ^ 1 = 256 from rfl, show (256 : Int) ^ 0 = 1 from rfl] at h0 h1 h2 h3
  omega
theorem byte8 {x y : Int} (x0 : 0 ≤ x) (x1 : x < 18446744073709551616) (y0 : 0 ≤ y) (y1 : y < 18446744073709551616) (h : ∀ i, i < 8 → x / 256 ^ i % 256 = y / 256 ^ i % 256) : x = y := by
  have a : x / 4294967296 = y / 4294967296 := by
    refine byte4 (by omega) (by omega) (by omega) (by omega) ?_ ?_ ?_ ?_
    · have := h 7 (by omega); rw [show (256 : Int) ^ 7 = 4294967296 * 256 ^ 3 from rfl] at this; rwa [← Int.ediv_ediv_of_nonneg (by omega), ← Int.ediv_ediv_of_nonneg (by omega)] at this
    · have := h 6 (by omega); rw [show (256 : Int) ^ 6 = 4294967296 * 256 ^ 2 from rfl] at this; rwa [← Int.ediv_ediv_of_nonneg (by omega), ← Int.ediv_ediv_of_nonneg (by omega)] at this
    · have := h 5 (by omega); rw [show (256 : Int) ^ 5 = 4294967296 * 256 ^ 1 from rfl] at this; rwa [← Int.ediv_ediv_of_nonneg (by omega), ← Int.ediv_ediv_of_nonneg (by omega)] at this
    · have := h 4 (by omega); rw [show (256 : Int) ^ 4 = 4294967296 * 256 ^ 0 from rfl] at this; rwa [← Int.ediv_ediv_of_nonneg (by omega), ← Int.ediv_ediv_of_nonneg (by omega)] at this
  have b : x % 4294967296 = y % 4294967296 := by
    have h0 := h 0 (by omega)
    have h1 := h 1 (by omega)
    have h2 := h 2 (by omega)
    have h3 := h 3 (by omega)
    simp only [show (256 : Int) ^ 3 = 16777216 from rfl, show (256 : Int) ^ 2 = 65536 from rfl, show (256 : Int) ^ 1 = 256 from rfl, show (256 : Int) ^ 0 = 1 from rfl] at h0 h1 h2 h3
    omega
  omega
/-- Unlike packets have unlike bytes. -/
theorem encF_inj {l m s d r o v t l' m' s' d' r' o' v' t' : Int} (h : isP l m s d r = true) (h' : isP l' m' s' d' r' = true)
    (o0 : 0 ≤ o ∧ o < 18446744073709551616) (v0 : 0 ≤ v ∧ v < 18446744073709551616) (t0 : 0 ≤ t ∧ t < 18446744073709551616) (o0' : 0 ≤ o' ∧ o' < 18446744073709551616) (v0' : 0 ≤ v' ∧ v' < 18446744073709551616) (t0' : 0 ≤ t' ∧ t' < 18446744073709551616)
    (he : ∀ j, j < 48 → encF l m s d r o v t j = encF l' m' s' d' r' o' v' t' j) : l = l' ∧ m = m' ∧ s = s' ∧ d = d' ∧ r = r' ∧ o = o' ∧ v = v' ∧ t = t' := by
  have b := isP_bd h
  have b' := isP_bd h'
  have e0 : l * 64 + 32 + m = l' * 64 + 32 + m' := he 0 (by omega)
  have e1 : s = s' := he 1 (by omega)
  have ed : d = d' := byte4 (by omega) (by omega) (by omega) (by omega) (he 4 (by omega)) (he 5 (by omega)) (he 6 (by omega)) (he 7 (by omega))
  have er : r = r' := byte4 (by omega) (by omega) (by omega) (by omega) (he 8 (by omega)) (he 9 (by omega)) (he 10 (by omega)) (he 11 (by omega))
  have eo : o = o' := byte8 o0.1 o0.2 o0'.1 o0'.2 (fun i hi => by
    rcases (show i = 0 ∨ i = 1 ∨ i = 2 ∨ i = 3 ∨ i = 4 ∨ i = 5 ∨ i = 6 ∨ i = 7 from by omega) with rfl | rfl | rfl | rfl | rfl | rfl | rfl | rfl
    · exact he 31 (by omega)
    · exact he 30 (by omega)
    · exact he 29 (by omega)
    · exact he 28 (by omega)
    · exact he 27 (by omega)
    · exact he 26 (by omega)
    · exact he 25 (by omega)
    · exact he 24 (by omega))
  have ev : v = v' := byte8 v0.1 v0.2 v0'.1 v0'.2 (fun i hi => by
    rcases (show i = 0 ∨ i = 1 ∨ i = 2 ∨ i = 3 ∨ i = 4 ∨ i = 5 ∨ i = 6 ∨ i = 7 from by omega) with rfl | rfl | rfl | rfl | rfl | rfl | rfl | rfl
    · exact he 39 (by omega)
    · exact he 38 (by omega)
    · exact he 37 (by omega)
    · exact he 36 (by omega)
    · exact he 35 (by omega)
    · exact he 34 (by omega)
    · exact he 33 (by omega)
    · exact he 32 (by omega))
  have et : t = t' := byte8 t0.1 t0.2 t0'.1 t0'.2 (fun i hi => by
    rcases (show i = 0 ∨ i = 1 ∨ i = 2 ∨ i = 3 ∨ i = 4 ∨ i = 5 ∨ i = 6 ∨ i = 7 from by omega) with rfl | rfl | rfl | rfl | rfl | rfl | rfl | rfl
    · exact he 47 (by omega)
    · exact he 46 (by omega)
    · exact he 45 (by omega)
    · exact he 44 (by omega)
    · exact he 43 (by omega)
    · exact he 42 (by omega)
    · exact he 41 (by omega)
    · exact he 40 (by omega))
  exact ⟨by omega, by omega, e1, ed, er, eo, ev, et⟩
end Go.Proofs.Ytfllemmmgmdliaa
