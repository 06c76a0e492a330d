/- The reference's clock: Read, Turn. -/
import Derived.Test.YtepdnkpmkhjlgaaRef8
set_option linter.unusedSimpArgs false
set_option linter.unusedVariables false
namespace Go.Proofs.Ytepdnkpmkhjlgaa
open Go.RowKit

theorem newc0 (v : World) (b : Nat) (x y : Value) (t : TypeId) (h : v.heap.size = b) : (v.alloc (.cells #[x, y] t)).cell? ⟨b, 0, none⟩ = some x := by subst h; simp
theorem newc1 (v : World) (b : Nat) (x y : Value) (t : TypeId) (h : v.heap.size = b) : (v.alloc (.cells #[x, y] t)).cell? ⟨b, 1, none⟩ = some y := by subst h; simp
end Go.Proofs.Ytepdnkpmkhjlgaa
