/- meridianref2.In. -/
import Derived.Test.YtklahiogcpojmaaBase
import Derived.Test.YtklahiogcpojmaaCalPlain
import Derived.Test.YtklahiogcpojmaaRef2Year
set_option linter.unusedSimpArgs false
set_option linter.unusedVariables false
namespace Go.Proofs.Ytklahiogcpojmaa
open Go.RowKit

theorem ref2_in (n : Int) (w : World) :
    Calls Try.prog 36 #[.int .i64 n] w fun e w' => e = .returned (.bool (decide (-719162 ≤ n) && decide (n < 2932897))) ∧ w = w' := by
  have e1 := Lib.hid yr_1970
  have e2 := Lib.hid yr_10000
  by_cases h : -719162 ≤ n
  · go_enter Try.func36, Try.ntmps36
    go_wp2_with (go_at_call 41; refine (ref2_year _ _ (by omega) (by omega)).mono ?_; rintro e w' ⟨rfl, rfl⟩; first | rw [e1.out] | rw [e2.out])
    go_ret
    exact ⟨by simp [h], rfl⟩
  · have h' : decide (-719162 ≤ n) = false := by simpa using h
    go_enter Try.func36, Try.ntmps36
    go_wp2_with (go_at_call 41; refine (ref2_year _ _ (by omega) (by omega)).mono ?_; rintro e w' ⟨rfl, rfl⟩; first | rw [e1.out] | rw [e2.out])
    go_ret
    exact ⟨by simp [h'], rfl⟩
end Go.Proofs.Ytklahiogcpojmaa
