/- Offsets of tables: at a leap, ahead of all, behind all. -/
import Derived.Test.YtonleiffbfdikaaDoorLeapMath
set_option linter.unusedSimpArgs false
set_option linter.unusedVariables false
namespace Go.Proofs.YtonleiffbfdikaaDoor

theorem leap_next {z : Nat → Int} {n : Nat} {x : Int} (h : IsTab z n x) (k : Nat) (hk : k + 1 < n) : z (k * 2) < z ((k + 1) * 2) := by
  have hs := (h.2.2.1 (k + 1) hk).2.2.2.2
  rcases hs with hs | hs
  · omega
  · have := hs.1
    rwa [show k + 1 - 1 = k from by omega] at this
theorem leap_rise {z : Nat → Int} {n : Nat} {x : Int} (h : IsTab z n x) (j : Nat) : ∀ k, j < k → k < n → z (j * 2) < z (k * 2) := by
  intro k
  induction k with
  | zero => intro h; omega
  | succ k ih =>
    intro hjk hk
    have h1 := leap_next h k hk
    by_cases e : j = k
    · subst e; exact h1
    · have := ih (by omega) (by omega); omega
theorem off_at {z : Nat → Int} {day : Int} (j : Nat) (h1 : z (j * 2) ≤ day) : ∀ k, j < k → (∀ i, j < i → i < k → day < z (i * 2)) → offK z day k = z (j * 2 + 1) := by
  intro k
  induction k with
  | zero => intro h; omega
  | succ k ih =>
    intro hj hi
    show (if z (k * 2) ≤ day then z (k * 2 + 1) else offK z day k) = _
    by_cases e : j = k
    · subst e; rw [if_pos h1]
    · rw [if_neg (by have := hi k (by omega) (by omega); omega)]
      exact ih (by omega) (fun i a b => hi i a (by omega))
theorem off_low {z : Nat → Int} {day : Int} : ∀ k, (∀ i, i < k → day < z (i * 2)) → offK z day k = z 1 := by
  intro k
  induction k with
  | zero => intro _; rfl
  | succ k ih =>
    intro hi
    show (if z (k * 2) ≤ day then z (k * 2 + 1) else offK z day k) = _
    rw [if_neg (by have := hi k (by omega); omega)]
    exact ih (fun i a => hi i (by omega))
theorem off_first {z : Nat → Int} {n : Nat} {x : Int} (h : IsTab z n x) {by' : Int} (hb : 0 ≤ by') : offK z (z 0 - by') n = z 1 := by
  by_cases e : by' = 0
  · exact off_at 0 (by subst e; show z 0 ≤ _; omega) n (by have := h.1; omega) (fun i a b => by have : z 0 < z (i * 2) := leap_rise h 0 i a b; omega)
  · refine off_low n (fun i hi => ?_)
    by_cases e0 : i = 0
    · subst e0; show _ < z 0; omega
    · have : z 0 < z (i * 2) := leap_rise h 0 i (by omega) hi; omega
theorem off_last {z : Nat → Int} {m : Nat} {day : Int} (hd : z (m * 2) ≤ day) : offK z day (m + 1) = z (m * 2 + 1) :=
  off_at m hd (m + 1) (by omega) (fun i a b => by omega)
/-- At the k-th leap. -/
theorem off_leap {z : Nat → Int} {n : Nat} {x : Int} (h : IsTab z n x) (k : Nat) (hk : k < n) : offK z (z (k * 2)) n = z (k * 2 + 1) :=
  off_at k (Int.le_refl _) n hk (fun i a b => leap_rise h k i a b)
/-- The day ahead of the k-th leap. -/
theorem off_ahead {z : Nat → Int} {n : Nat} {x : Int} (h : IsTab z n x) (k : Nat) (hk : k + 1 < n) : offK z (z ((k + 1) * 2) - 1) n = z (k * 2 + 1) := by
  refine off_at k (by have := leap_next h k hk; omega) n (by omega) (fun i a b => ?_)
  by_cases e : i = k + 1
  · subst e; omega
  · have := leap_rise h (k + 1) i (by omega) b; omega
end Go.Proofs.YtonleiffbfdikaaDoor
