/- The claim of stage 2: CalMonths. -/
import Derived.Test.YtlmbhiidbcpihaaS2E
set_option linter.unusedSimpArgs false
set_option linter.unusedVariables false
namespace Go.Proofs.Ytlmbhiidbcpihaa
open Go.ChangeShapes Go.WideShapes Go.ChangeAt Go.RowKit Go.Joins

set_option maxRecDepth 100000 in
theorem calMonths_lifted (os : Os) (started : os.Started) (H : Type) (enc : TypeId × Value → H) :
    ReturnsInHanded {} Try.checked os 7 .any (Rows.calMonthsSpec.pre6 enc Try.prog Try.f7 Rows.calMonthsRow.domain false) (Rows.calMonthsSpec.post enc Try.prog Try.f7 false true false false) := by
  refine returnsInHanded_of_change_sized (C := Try.checked) law_own started (by kernel_rfl) Try.func7
    (ChangeSpec.witness6 (enc := enc) (C := Try.checked) false ⟨#[], #[.int .i64 0, .int .i64 0], []⟩ 8 (by kernel_rfl) (by kernel_rfl) (by kernel_rfl) (by kernel_rfl)) ?_
  intro W base args ds gs before hval0 hW hcnd hsz0 _
  have hval : ∀ (j : Nat) t v, Try.f7.params[j]? = some t → args[j]? = some v → Value.okWide Try.prog W .any base t v := hval0
  have hsz : (DataW.weightsEach Try.prog (Try.f7.params.toList ++ Rows.calMonthsSpec.plain.varTypes Try.prog) (ds ++ gs)).all (· ≤ reachBytes) = true := hsz0
  have hW' := hW
  obtain ⟨p, q, hA0, hV, rfl, hfz, hnd⟩ := hW
  have hA : DataW.TrodAll enc Try.prog W 0 (fun _ => true) true Try.f7.params.toList args.toList ds p := hA0
  rw [Try.params7] at hA hval hsz
  have hsame : (Rows.calMonthsSpec.fn H (ds ++ gs)).results = [.lit (.bool true)] ∧ (Rows.calMonthsSpec.fn H (ds ++ gs)).args = ds ∧ (Rows.calMonthsSpec.fn H (ds ++ gs)).vars = [] → ∀ W', Below W.heap.size W W' → Rows.calMonthsSpec.post enc Try.prog Try.f7 false true false false W args (.bool true) W' :=
    fun h W' hb => law_post (tb := 4) hW' law_laid (by kernel_rfl) rfl Try.underlying4 h.1 h.2.1 rfl h.2.2 hb
  obtain ⟨v0, vs0, d0, ds0, p0, q0, hargs, rfl, rfl, h0, r0⟩ := trodAll_cons hA
  obtain ⟨v1, vs1, d1, ds1, p1, q1, rfl, rfl, rfl, h1, r1⟩ := trodAll_cons r0
  obtain ⟨rfl, rfl, rfl⟩ := trodAll_nil r1
  obtain rfl : args = #[v0, v1] := by cases args; simp_all
  obtain ⟨rfl, rfl⟩ := trodVars_none hV
  have hpost := hsame ⟨rfl, rfl, rfl⟩
  clear hsame hA0 hval0 hsz0
  obtain ⟨a0, rfl, rfl, rfl, wf0⟩ := open_int Try.underlying3 (hval 0 3 v0 rfl rfl) h0
  obtain ⟨a1, rfl, rfl, rfl, wf1⟩ := open_int Try.underlying3 (hval 1 3 v1 rfl rfl) h1
  by_cases h : a0 < 1 ∨ (1 ≤ a0 ∧ 9998 < a0) ∨ (1 ≤ a0 ∧ a0 ≤ 9998 ∧ a1 < 1) ∨ (1 ≤ a0 ∧ a0 ≤ 9998 ∧ 1 ≤ a1 ∧ 12 < a1)
  · exact (calMonths_out a0 a1 W h).mono fun e W' ⟨he, hb⟩ => ⟨_, he, hpost W' hb⟩
  · by_cases hm : a1 = 2
    · subst hm
      by_cases h4 : a0 % 400 = 0
      · exact (calMonths_feb400 a0 W (by omega) (by omega) h4).mono fun e W' ⟨he, hb⟩ => ⟨_, he, hpost W' hb⟩
      · by_cases h5 : a0 % 4 = 0
        · by_cases h6 : a0 % 100 = 0
          · exact (calMonths_feb28b a0 W (by omega) (by omega) h4 h5 h6).mono fun e W' ⟨he, hb⟩ => ⟨_, he, hpost W' hb⟩
          · exact (calMonths_feb29 a0 W (by omega) (by omega) h4 h5 h6).mono fun e W' ⟨he, hb⟩ => ⟨_, he, hpost W' hb⟩
        · exact (calMonths_feb28a a0 W (by omega) (by omega) h5).mono fun e W' ⟨he, hb⟩ => ⟨_, he, hpost W' hb⟩
    · exact (calMonths_plain a0 a1 W (by omega) (by omega) (by omega) (by omega) hm).mono fun e W' ⟨he, hb⟩ => ⟨_, he, hpost W' hb⟩
theorem calMonths_holds : Rows.CalMonthsSaid :=
  OpenClaim.holds_of_wide 7 Try.f7 rfl rfl rfl rfl rfl rfl rfl ⟨rfl, rfl, rfl, rfl, rfl⟩ rfl rfl rfl rfl rfl (by kernel_rfl) Try.func7 (by kernel_rfl)
    (of_decide_eq_true (by kernel_rfl)) (by unfold Func.isWrapper; first | (rw [if_pos (by decide +kernel)]; kernel_rfl) | (rw [if_neg (by decide +kernel)]; exact ⟨rfl, rfl⟩))
    (fun os started H enc _ => calMonths_lifted os started H enc)
end Go.Proofs.Ytlmbhiidbcpihaa
