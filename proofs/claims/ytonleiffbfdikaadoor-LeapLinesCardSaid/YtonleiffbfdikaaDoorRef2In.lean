/- meridianref2.In. -/
import Derived.Test.YtonleiffbfdikaaDoorBase
import Derived.Test.YtonleiffbfdikaaDoorCalPlain
import Derived.Test.YtonleiffbfdikaaDoorRef2Year
set_option linter.unusedSimpArgs false
set_option linter.unusedVariables false
namespace Go.Proofs.YtonleiffbfdikaaDoor
open Go.RowKit

theorem ref2_in (n : Int) (w : World) :
    Calls Tryd.prog 39 #[.int .i64 n] w fun e w' => e = .returned (.bool (decide (-719162 ≤ n) && decide (n < 2932897))) ∧ w = w' := by
  have e1 := Lib.hid yr_1970
  have e2 := Lib.hid yr_10000
  by_cases h : -719162 ≤ n
  · go_enter Tryd.func39, Tryd.ntmps39
    go_wp2_with (go_at_call 52; refine (ref2_year _ _ (by omega) (by omega)).mono ?_; rintro e w' ⟨rfl, rfl⟩; first | rw [e1.out] | rw [e2.out])
    go_ret
    exact ⟨by simp [h], rfl⟩
  · have h' : decide (-719162 ≤ n) = false := by simpa using h
    go_enter Tryd.func39, Tryd.ntmps39
    go_wp2_with (go_at_call 52; refine (ref2_year _ _ (by omega) (by omega)).mono ?_; rintro e w' ⟨rfl, rfl⟩; first | rw [e1.out] | rw [e2.out])
    go_ret
    exact ⟨by simp [h'], rfl⟩
end Go.Proofs.YtonleiffbfdikaaDoor
