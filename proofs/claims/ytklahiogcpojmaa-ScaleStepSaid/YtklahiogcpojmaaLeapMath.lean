/- Offsets from day to day. -/
import Derived.Test.YtklahiogcpojmaaLeapOff
set_option linter.unusedSimpArgs false
set_option linter.unusedVariables false
namespace Go.Proofs.Ytklahiogcpojmaa
open Go.RowKit

theorem off_step {z : Nat → Int} {n : Nat} {x : Int} (h : IsTab z n x) (d : Int) : ∀ k, k ≤ n → -1 ≤ offK z (d + 1) k - offK z d k ∧ offK z (d + 1) k - offK z d k ≤ 1 := by
  intro k
  induction k with
  | zero => intro _; show -1 ≤ z 1 - z 1 ∧ z 1 - z 1 ≤ 1; omega
  | succ k ih =>
    intro hk
    have i := ih (by omega)
    have hk0 := h.2.2.1 k (by omega)
    unfold offK
    by_cases h1 : z (k * 2) ≤ d
    · rw [if_pos (by omega), if_pos h1]; omega
    · rw [if_neg h1]
      by_cases h2 : z (k * 2) ≤ d + 1
      · rw [if_pos h2]
        rcases k with _ | j
        · show -1 ≤ z (0 * 2 + 1) - z 1 ∧ z (0 * 2 + 1) - z 1 ≤ 1
          rw [show 0 * 2 + 1 = 1 from rfl]; omega
        · obtain ⟨_, _, _, _, h3⟩ := hk0
          rcases h3 with h3 | ⟨h4, _, h5⟩
          · omega
          · rw [show j + 1 - 1 = j from by omega] at h4 h5
            have e : offK z d (j + 1) = z (j * 2 + 1) := by
              unfold offK
              rw [if_pos (by omega)]
            rw [e]
            omega
      · rw [if_neg h2]; exact i
/-- The seconds ahead of a day. -/
def begS (z : Nat → Int) (n : Nat) (d : Int) : Int := d * 86400 + offK z d n
theorem begS_step {z : Nat → Int} {n : Nat} {x : Int} (h : IsTab z n x) (d : Int) : begS z n (d + 1) = begS z n d + (86400 + offK z (d + 1) n - offK z d n) ∧ begS z n d + 86399 ≤ begS z n (d + 1) := by
  have := off_step h d n (Nat.le_refl _)
  unfold begS
  omega
theorem begS_up {z : Nat → Int} {n : Nat} {x : Int} (h : IsTab z n x) (d : Int) (k : Nat) : begS z n d ≤ begS z n (d + k) := by
  induction k with
  | zero => simp
  | succ k ih =>
    have := (begS_step h (d + k)).2
    rw [show d + ((k + 1 : Nat) : Int) = d + k + 1 from by omega]
    omega
theorem begS_mono {z : Nat → Int} {n : Nat} {x : Int} (h : IsTab z n x) {d d' : Int} (hd : d ≤ d') : begS z n d ≤ begS z n d' := by
  have := begS_up h d (d' - d).toNat
  rwa [show d + ((d' - d).toNat : Int) = d' from by omega] at this
end Go.Proofs.Ytklahiogcpojmaa
