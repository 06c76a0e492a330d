/- Stage 7: AgreeIn. -/
import Derived.Test.YtepdnkpmkhjlgaaGreatM9I
import Derived.Test.YtepdnkpmkhjlgaaGreatLaw
set_option linter.unusedSimpArgs false
set_option linter.unusedVariables false
namespace Go.Proofs.YtepdnkpmkhjlgaaGreat
open Go.ChangeShapes Go.WideShapes Go.ChangeAt Go.RowKit Go.Joins

def atB (a b : Int) (i : Int × Int) : Bool := decide (i.1 ≤ a) && decide (b ≤ i.2)
def inK (z : Nat → Int) (x : Int) (k : Nat) : Nat := (ivs z k).countP (Ag.inB x)
def atK (z : Nat → Int) (a b : Int) (k : Nat) : Nat := (ivs z k).countP (atB a b)
theorem inK_succ (z : Nat → Int) (x : Int) (k : Nat) : inK z x (k + 1) = inK z x k + if Ag.inB x (z (k * 2), z (k * 2 + 1)) then 1 else 0 := by
  unfold inK
  rw [ivs_succ, List.countP_append]
  simp [List.countP_cons]
theorem atK_succ (z : Nat → Int) (a b : Int) (k : Nat) : atK z a b (k + 1) = atK z a b k + if atB a b (z (k * 2), z (k * 2 + 1)) then 1 else 0 := by
  unfold atK
  rw [ivs_succ, List.countP_append]
  simp [List.countP_cons]
theorem inK_le (z : Nat → Int) (x : Int) (k : Nat) : inK z x k ≤ k := by have : inK z x k ≤ (ivs z k).length := List.countP_le_length; rwa [ivs_len] at this
theorem atK_le (z : Nat → Int) (a b : Int) (k : Nat) : atK z a b k ≤ k := by have : atK z a b k ≤ (ivs z k).length := List.countP_le_length; rwa [ivs_len] at this
end Go.Proofs.YtepdnkpmkhjlgaaGreat
