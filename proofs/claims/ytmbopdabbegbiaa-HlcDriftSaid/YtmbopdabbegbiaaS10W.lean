/- Stage 10: HlcDrift, the claim. -/
import Derived.Test.YtmbopdabbegbiaaS10S1
import Derived.Test.YtmbopdabbegbiaaS10S2
import Derived.Test.YtmbopdabbegbiaaS10S3
import Derived.Test.YtmbopdabbegbiaaS10U1
import Derived.Test.YtmbopdabbegbiaaS10U2
import Derived.Test.YtmbopdabbegbiaaS10U3
import Derived.Test.YtmbopdabbegbiaaArgFlat
import Derived.Test.YtmbopdabbegbiaaLaw
set_option linter.unusedSimpArgs false
set_option linter.unusedVariables false
namespace Go.Proofs.Ytmbopdabbegbiaa
open Go.ChangeShapes Go.WideShapes Go.ChangeAt Go.RowKit Go.Joins

set_option maxRecDepth 100000 in
theorem hlcDrift_lifted (os : Os) (started : os.Started) (H : Type) (enc : TypeId × Value → H) :
    ReturnsInHanded {} Try.checked os 10 .any (Rows.hlcDriftSpec.pre6 enc Try.prog Try.f10 Rows.hlcDriftRow.domain false) (Rows.hlcDriftSpec.post enc Try.prog Try.f10 false true false false) := by
  refine returnsInHanded_of_change_sized (C := Try.checked) law_own started (by kernel_rfl) Try.func10
    (ChangeSpec.witness6 (enc := enc) (C := Try.checked) false ⟨#[], #[.int .i64 0, .int .i64 0, .slice none 0 0], []⟩ 8 (by kernel_rfl) (by kernel_rfl) (by kernel_rfl) (by kernel_rfl)) ?_
  intro W base args ds gs before hval0 hW hcnd hsz0 _
  have hval : ∀ (j : Nat) t v, Try.f10.params[j]? = some t → args[j]? = some v → Value.okWide Try.prog W .any base t v := hval0
  have hsz : (DataW.weightsEach Try.prog (Try.f10.params.toList ++ Rows.hlcDriftSpec.plain.varTypes Try.prog) (ds ++ gs)).all (· ≤ reachBytes) = true := hsz0
  have hW' := hW
  obtain ⟨p, q, hA0, hV, rfl, hfz, hnd⟩ := hW
  have hA : DataW.TrodAll enc Try.prog W 0 (fun _ => true) true Try.f10.params.toList args.toList ds p := hA0
  rw [Try.params10] at hA hval hsz
  have hsame : (Rows.hlcDriftSpec.fn H (ds ++ gs)).results = [.lit (.bool true)] ∧ (Rows.hlcDriftSpec.fn H (ds ++ gs)).args = ds ∧ (Rows.hlcDriftSpec.fn H (ds ++ gs)).vars = [] → ∀ W', Below W.heap.size W W' → Rows.hlcDriftSpec.post enc Try.prog Try.f10 false true false false W args (.bool true) W' :=
    fun h W' hb => law_post (tb := 4) hW' law_laid (by kernel_rfl) rfl Try.underlying4 h.1 h.2.1 rfl h.2.2 hb
  obtain ⟨v0, vs0, d0, ds0, p0, q0, hargs, rfl, rfl, h0, r0⟩ := trodAll_cons hA
  obtain ⟨v1, vs1, d1, ds1, p1, q1, rfl, rfl, rfl, h1, r1⟩ := trodAll_cons r0
  obtain ⟨v2, vs2, d2, ds2, p2, q2, rfl, rfl, rfl, h2, r2⟩ := trodAll_cons r1
  obtain ⟨rfl, rfl, rfl⟩ := trodAll_nil r2
  obtain rfl : args = #[v0, v1, v2] := by cases args; simp_all
  obtain ⟨rfl, rfl⟩ := trodVars_none hV
  have hpost := hsame ⟨rfl, rfl, rfl⟩
  clear hsame hA0 hval0 hsz0
  obtain ⟨a0, rfl, rfl, rfl, wf0⟩ := open_int Try.underlying3 (hval 0 3 v0 rfl rfl) h0
  obtain ⟨a1, rfl, rfl, rfl, wf1⟩ := open_int Try.underlying3 (hval 1 3 v1 rfl rfl) h1
  obtain ⟨A, n, c, z, rfl, hn, hz⟩ := open_flat_slice (m := 2) Try.underlying61 (by kernel_rfl) (by kernel_rfl) (by omega) (hval 2 61 v2 rfl rfl) h2
  by_cases h : 0 ≤ a0 ∧ a0 ≤ 1099511627776 ∧ -1073741824 ≤ a1 ∧ a1 ≤ 1073741824 ∧ n ≤ 50
  · obtain ⟨b0, b1, b2, b3, b4⟩ := h
    rcases A with _ | ad
    · obtain ⟨rfl, rfl⟩ := nil_shape Try.underlying61 h2
      rcases (show 0 < a0 + 60000 + a1 ∨ a0 + 60000 + a1 < 0 ∨ a0 + 60000 + a1 = 0 from by omega) with k | k | k
      · exact (drift_nil1 a0 a1 _ W b0 b1 b2 b3 ⟨rfl, k⟩).mono fun e W' ⟨he, hb⟩ => ⟨_, he, hpost W' hb⟩
      · exact (drift_nil2 a0 a1 _ W b0 b1 b2 b3 ⟨k, rfl⟩).mono fun e W' ⟨he, hb⟩ => ⟨_, he, hpost W' hb⟩
      · exact (drift_nil3 a0 a1 _ W b0 b1 b2 b3 ⟨k, rfl⟩).mono fun e W' ⟨he, hb⟩ => ⟨_, he, hpost W' hb⟩
    · rcases (show 0 < a0 + 60000 + a1 ∨ a0 + 60000 + a1 < 0 ∨ a0 + 60000 + a1 = 0 from by omega) with k | k | k
      · exact (drift_in1 a0 a1 _ ad n c z W hz b0 b1 b2 b3 b4 ⟨rfl, k⟩).mono fun e W' ⟨he, hb⟩ => ⟨_, he, hpost W' hb⟩
      · exact (drift_in2 a0 a1 _ ad n c z W hz b0 b1 b2 b3 b4 ⟨k, rfl⟩).mono fun e W' ⟨he, hb⟩ => ⟨_, he, hpost W' hb⟩
      · exact (drift_in3 a0 a1 _ ad n c z W hz b0 b1 b2 b3 b4 ⟨k, rfl⟩).mono fun e W' ⟨he, hb⟩ => ⟨_, he, hpost W' hb⟩
  · exact (drift_out a0 a1 A n c W hn h).mono fun e W' ⟨he, hb⟩ => ⟨_, he, hpost W' hb⟩
theorem hlcDrift_holds : Rows.HlcDriftSaid :=
  OpenClaim.holds_of_wide 10 Try.f10 rfl rfl rfl rfl rfl rfl rfl ⟨rfl, rfl, rfl, rfl, rfl⟩ rfl rfl rfl rfl rfl (by kernel_rfl) Try.func10 (by kernel_rfl)
    (of_decide_eq_true (by kernel_rfl)) (by unfold Func.isWrapper; first | (rw [if_pos (by decide +kernel)]; kernel_rfl) | (rw [if_neg (by decide +kernel)]; exact ⟨rfl, rfl⟩))
    (fun os started H enc _ => hlcDrift_lifted os started H enc)
end Go.Proofs.Ytmbopdabbegbiaa
