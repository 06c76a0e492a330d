/- A number's digits to the base 16 (plain mathematics). -/
import Derived.Test.YtcmoglbmngmgnaaDoorBase
import Derived.Lib.Bytes
set_option linter.unusedSimpArgs false
set_option linter.unusedVariables false
namespace Go.Proofs.YtcmoglbmngmgnaaDoor
open Go.RowKit

def digT : ByteArray := ⟨#[48, 49, 50, 51, 52, 53, 54, 55, 56, 57, 97, 98, 99, 100, 101, 102, 103, 104, 105, 106, 107, 108, 109, 110, 111, 112, 113, 114, 115, 116, 117, 118, 119, 120, 121, 122]⟩
def hdV (d : Nat) : UInt8 := digT.data.toList.getD d 0
/-- The digits of u, the highest first; k of them are enough. -/
def hexF : Nat → Nat → List UInt8
  | 0, _ => []
  | k + 1, u => if u < 16 then [hdV u] else hexF k (u / 16) ++ [hdV (u % 16)]
theorem hexF_low {k u : Nat} (h : u < 16) : hexF (k + 1) u = [hdV u] := by rw [hexF, if_pos h]
theorem hexF_high {k u : Nat} (h : ¬ u < 16) : hexF (k + 1) u = hexF k (u / 16) ++ [hdV (u % 16)] := by rw [hexF, if_neg h]
theorem hexF_len : ∀ (k u m : Nat), u < 16 ^ m → 0 < m → (hexF k u).length ≤ m
  | 0, _, _, _, _ => by simp [hexF]
  | k + 1, u, m, h, hm => by
    by_cases hu : u < 16
    · rw [hexF_low hu]
      simp
      omega
    · rw [hexF_high hu]
      obtain ⟨m', rfl⟩ : ∃ m', m = m' + 1 := ⟨m - 1, by omega⟩
      have h16 : 16 ^ (m' + 1) = 16 * 16 ^ m' := by rw [Nat.pow_succ, Nat.mul_comm]
      have hm' : 0 < m' := by
        rcases Nat.eq_zero_or_pos m' with q | q
        · subst q; simp at h; omega
        · exact q
      have := hexF_len k (u / 16) m' (by omega) hm'
      simp
      omega
theorem hexF_pos (k u : Nat) : 0 < (hexF (k + 1) u).length := by
  by_cases h : u < 16
  · rw [hexF_low h]; simp
  · rw [hexF_high h]; simp
theorem hdV_by {d : Nat} (h : d < 16) : (48 ≤ (hdV d).toNat ∧ (hdV d).toNat ≤ 57) ∨ (97 ≤ (hdV d).toNat ∧ (hdV d).toNat ≤ 102) := by
  have : ∀ d : Fin 16, (48 ≤ (hdV d.val).toNat ∧ (hdV d.val).toNat ≤ 57) ∨ (97 ≤ (hdV d.val).toNat ∧ (hdV d.val).toNat ≤ 102) := by decide
  exact this ⟨d, h⟩
end Go.Proofs.YtcmoglbmngmgnaaDoor
