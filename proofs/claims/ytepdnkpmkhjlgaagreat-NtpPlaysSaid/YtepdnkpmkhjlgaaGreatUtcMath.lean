/- A moment of TAI as a day and its nanoseconds (plain mathematics). -/
import Derived.Test.YtepdnkpmkhjlgaaGreatM9B
set_option linter.unusedSimpArgs false
set_option linter.unusedVariables false
namespace Go.Proofs.YtepdnkpmkhjlgaaGreat
open Go.RowKit

/-- The moment's day and what has gone of it. -/
structure IsUtc (z : Nat → Int) (n : Nat) (tai d m : Int) : Prop where
  lo : 0 ≤ m
  hi : m < (86400 + offK z (d + 1) n - offK z d n) * 1000000000
  eq : tai = begS z n d * 1000000000 + m
theorem utc_here {z : Nat → Int} {n : Nat} {x : Int} (h : IsTab z n x) (tai : Int) (h0 : 0 ≤ tai - begS z n (tai / 86400000000000) * 1000000000) : IsUtc z n tai (tai / 86400000000000) (tai - begS z n (tai / 86400000000000) * 1000000000) := by
  have h1 := begS_step h (tai / 86400000000000)
  have h2 := offK_bd h (tai / 86400000000000 + 1) n (Nat.le_refl _)
  have h3 := offK_bd h (tai / 86400000000000) n (Nat.le_refl _)
  have e := h1.1
  refine ⟨h0, ?_, by omega⟩
  unfold begS at e h0 ⊢
  omega
theorem utc_ahead {z : Nat → Int} {n : Nat} {x : Int} (h : IsTab z n x) (tai : Int) (h0 : tai - begS z n (tai / 86400000000000) * 1000000000 < 0) : IsUtc z n tai (tai / 86400000000000 - 1) (tai - begS z n (tai / 86400000000000 - 1) * 1000000000) := by
  have h1 := begS_step h (tai / 86400000000000 - 1)
  rw [show tai / 86400000000000 - 1 + 1 = tai / 86400000000000 from by omega] at h1
  have h3 := offK_bd h (tai / 86400000000000 - 1) n (Nat.le_refl _)
  have e := h1.1
  refine ⟨?_, ?_, by omega⟩
  · unfold begS
    omega
  · rw [show tai / 86400000000000 - 1 + 1 = tai / 86400000000000 from by omega]
    omega
theorem utc_unique {z : Nat → Int} {n : Nat} {x : Int} (h : IsTab z n x) {tai d m d' m' : Int} (a : IsUtc z n tai d m) (b : IsUtc z n tai d' m') : d = d' ∧ m = m' := by
  have a1 := (begS_step h d).1
  have b1 := (begS_step h d').1
  have a2 := a.eq
  have b2 := b.eq
  have a3 := a.lo
  have a4 := a.hi
  have b3 := b.lo
  have b4 := b.hi
  rcases Int.lt_trichotomy d d' with q | q | q
  · have := begS_mono h (show d + 1 ≤ d' from by omega)
    omega
  · subst q
    exact ⟨rfl, by omega⟩
  · have := begS_mono h (show d' + 1 ≤ d from by omega)
    omega
/-- A nanosecond later. -/
theorem utc_next {z : Nat → Int} {n : Nat} {x : Int} (h : IsTab z n x) {tai d m d' m' : Int} (a : IsUtc z n tai d m) (b : IsUtc z n (tai + 1) d' m') :
    (m + 1 < (86400 + offK z (d + 1) n - offK z d n) * 1000000000 → d' = d ∧ m' = m + 1) ∧ ((86400 + offK z (d + 1) n - offK z d n) * 1000000000 ≤ m + 1 → d' = d + 1 ∧ m' = 0) := by
  constructor
  · intro hl
    have c : IsUtc z n (tai + 1) d (m + 1) := ⟨by have := a.lo; omega, hl, by have := a.eq; omega⟩
    obtain ⟨e1, e2⟩ := utc_unique h c b
    exact ⟨e1.symm, e2.symm⟩
  · intro hl
    have h1 := (begS_step h d).1
    have h2 := off_step h (d + 1) n (Nat.le_refl _)
    have c : IsUtc z n (tai + 1) (d + 1) 0 := ⟨by omega, by omega, by have := a.eq; have := a.hi; omega⟩
    obtain ⟨e1, e2⟩ := utc_unique h c b
    exact ⟨e1.symm, e2.symm⟩
end Go.Proofs.YtepdnkpmkhjlgaaGreat
