/- Stage 16: StoreOrder: the closed facts of its claim. -/
import Derived.Test.YtpflbhcgkndpcaaGreatDoorLaw
import Derived.Test.YtpflbhcgkndpcaaGreatDoorCards
import Derived.Test.YtpflbhcgkndpcaaGreatDoorTie
import Derived.Deep.DeepHandedRow
set_option linter.unusedSimpArgs false
set_option linter.unusedVariables false
namespace Go.Proofs.YtpflbhcgkndpcaaGreatDoor
open Go.ChangeShapes Go.WideShapes Go.ChangeAt Go.RowKit Go.Joins Go.Deep

set_option maxHeartbeats 40000000 in
theorem storeOrder_facts : joinedFacts Tryz.pinned.checked.prog 3 Tryz.f3 (OpenSpec.ofChange Rows.storeOrderSpec).bare Rows.storeOrderRow = true := by
  unfold joinedFacts
  simp only [Bool.and_eq_true]
  repeat' (refine And.intro ?_ ?_)
  all_goals (as_aux_lemma => kernel_rfl)
theorem storeOrder_inst : Tryz.f3.isInstance Tryz.pinned.checked.prog Rows.storeOrderRow.origin Rows.storeOrderRow.targs := of_decide_eq_true (by kernel_rfl)
theorem storeOrder_wrap : Tryz.f3.isWrapper Tryz.pinned.checked.prog Rows.storeOrderRow.wrapper Rows.storeOrderRow.mainSum := by unfold Func.isWrapper; first | (rw [if_pos (by decide +kernel)]; kernel_rfl) | (rw [if_neg (by decide +kernel)]; exact ⟨rfl, rfl⟩)
theorem storeOrder_named : Tryz.pinned.checked.prog.funcNamed Rows.storeOrderRow.func = some 3 := by kernel_rfl
end Go.Proofs.YtpflbhcgkndpcaaGreatDoor
