/- What was laid in a packet is taken. -/
import Derived.Test.YtepdnkpmkhjlgaaGreatPkDec
import Derived.Test.YtepdnkpmkhjlgaaGreatPkRef
set_option linter.unusedSimpArgs false
set_option linter.unusedVariables false
namespace Go.Proofs.YtepdnkpmkhjlgaaGreat
open Go.RowKit

theorem num4 {x : Int} (h0 : 0 ≤ x) (h1 : x < 4294967296) (f : Nat → Int) (e : ∀ j, j < 4 → f j = x / 256 ^ (3 - j) % 256) : numK f 4 = x := by
  have e0 := e 0 (by omega)
  have e1 := e 1 (by omega)
  have e2 := e 2 (by omega)
  have e3 := e 3 (by omega)
  simp only [show (256 : Int) ^ (3 - 0) = 16777216 from rfl, show (256 : Int) ^ (3 - 1) = 65536 from rfl, show (256 : Int) ^ (3 - 2) = 256 from rfl, show (256 : Int) ^ (3 - 3) = 1 from rfl] at e0 e1 e2 e3
  show (((0 * 256 + f 0) * 256 + f 1) * 256 + f 2) * 256 + f 3 = x
  omega
theorem num8 {x : Int} (h0 : 0 ≤ x) (h1 : x < 18446744073709551616) (f : Nat → Int) (e : ∀ j, j < 8 → f j = x / 256 ^ (7 - j) % 256) : numK f 8 = x := by
  have e0 := e 0 (by omega)
  have e1 := e 1 (by omega)
  have e2 := e 2 (by omega)
  have e3 := e 3 (by omega)
  have e4 := e 4 (by omega)
  have e5 := e 5 (by omega)
  have e6 := e 6 (by omega)
  have e7 := e 7 (by omega)
  simp only [show (256 : Int) ^ (7 - 0) = 72057594037927936 from rfl, show (256 : Int) ^ (7 - 1) = 281474976710656 from rfl, show (256 : Int) ^ (7 - 2) = 1099511627776 from rfl, show (256 : Int) ^ (7 - 3) = 4294967296 from rfl,
    show (256 : Int) ^ (7 - 4) = 16777216 from rfl, show (256 : Int) ^ (7 - 5) = 65536 from rfl, show (256 : Int) ^ (7 - 6) = 256 from rfl, show (256 : Int) ^ (7 - 7) = 1 from rfl] at e0 e1 e2 e3 e4 e5 e6 e7
  show (((((((0 * 256 + f 0) * 256 + f 1) * 256 + f 2) * 256 + f 3) * 256 + f 4) * 256 + f 5) * 256 + f 6) * 256 + f 7 = x
  omega
/-- What was laid is taken. -/
theorem dec_enc {l m s d r o v t : Int} (h : isP l m s d r = true) (o0 : 0 ≤ o ∧ o < 18446744073709551616) (v0 : 0 ≤ v ∧ v < 18446744073709551616) (t0 : 0 ≤ t ∧ t < 18446744073709551616) :
    dL (encF l m s d r o v t) = l ∧ dM (encF l m s d r o v t) = m ∧ encF l m s d r o v t 1 = s ∧ dD (encF l m s d r o v t) = d ∧ dR (encF l m s d r o v t) = r ∧ dO (encF l m s d r o v t) = o ∧ dV (encF l m s d r o v t) = v ∧ dT (encF l m s d r o v t) = t := by
  have b := isP_bd h
  have e0 : encF l m s d r o v t 0 = l * 64 + 32 + m := rfl
  refine ⟨by unfold dL; omega, by unfold dM; omega, rfl, ?_, ?_, ?_, ?_, ?_⟩
  · exact num4 (by omega) (by omega) _ (fun j hj => by
      rcases (show j = 0 ∨ j = 1 ∨ j = 2 ∨ j = 3 from by omega) with rfl | rfl | rfl | rfl <;> rfl)
  · exact num4 (by omega) (by omega) _ (fun j hj => by
      rcases (show j = 0 ∨ j = 1 ∨ j = 2 ∨ j = 3 from by omega) with rfl | rfl | rfl | rfl <;> rfl)
  all_goals
    exact num8 (by omega) (by omega) _ (fun j hj => by
      rcases (show j = 0 ∨ j = 1 ∨ j = 2 ∨ j = 3 ∨ j = 4 ∨ j = 5 ∨ j = 6 ∨ j = 7 from by omega) with rfl | rfl | rfl | rfl | rfl | rfl | rfl | rfl <;> rfl)
theorem eqB_refl (n : Nat) (f : Nat → Int) : eqB n f n f = true := by simp [eqB, (eqK_iff f f n).2 (fun _ _ => rfl)]
theorem decOk_enc {l m s d r o v t : Int} (h : isP l m s d r = true) (o0 : 0 ≤ o ∧ o < 18446744073709551616) (v0 : 0 ≤ v ∧ v < 18446744073709551616) (t0 : 0 ≤ t ∧ t < 18446744073709551616) : decOk (encF l m s d r o v t) = true := by
  obtain ⟨e1, e2, e3, e4, e5, e6, e7, e8⟩ := dec_enc h o0 v0 t0
  unfold decOk
  rw [e1, e2, e3, e4, e5, e6, e7, e8, h, eqB_refl]
  rfl
end Go.Proofs.YtepdnkpmkhjlgaaGreat
