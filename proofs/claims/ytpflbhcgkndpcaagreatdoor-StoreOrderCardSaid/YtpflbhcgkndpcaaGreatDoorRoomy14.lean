/- Stage 14: roomy, spoil: bytes with room behind them, written over. -/
import Derived.Test.YtpflbhcgkndpcaaGreatDoorG16m
import Derived.Test.YtpflbhcgkndpcaaGreatDoorRowSet
set_option linter.unusedSimpArgs false
set_option linter.unusedVariables false
namespace Go.Proofs.YtpflbhcgkndpcaaGreatDoor
open Go.RowKit

/-- The row that roomy hands out: two bytes behind those that came in. -/
def Roomy (p : List Int) (w w' : World) (e : Ending) : Prop := ∃ g cap, e = .returned (.slice (some ⟨g, 0, none⟩) (p.length + 1) cap) ∧ p.length + 2 ≤ cap ∧ cap ≤ maxLen ∧ w'.ownsRow w.heap.size 5 1 (.slice (some ⟨g, 0, none⟩) (p.length + 2) cap) (p.length + 2) (bC (p ++ [171, 171]))
theorem own_max {w : World} {base : Nat} {e : TypeId} {size g n cap : Nat} {xs : List Value} (h : w.ownsRow base e size (.slice (some ⟨g, 0, none⟩) n cap) n xs) : n ≤ cap ∧ cap ≤ maxLen := by
  rcases h.2 with ⟨h, _⟩ | ⟨g', cap', cur, h, _, _, h1, h2, _⟩
  · cases h
  · injection h with _ _ h3
    omega
theorem own_first {w : World} {base : Nat} {g n m cap : Nat} {l r : List Int} (h : w.ownsRow base 5 1 (.slice (some ⟨g, 0, none⟩) m cap) m (bC (l ++ r))) (hn : l.length = n) : w.ownsRow base 5 1 (.slice (some ⟨g, 0, none⟩) n cap) n (bC l) := by
  subst hn
  refine ⟨by rw [bC_len]; omega, ?_⟩
  rcases h.2 with ⟨e, _⟩ | ⟨g', cap', cur, e, hb, hh, h1, h2, h3, h4⟩
  · cases e
  · injection e with e1 e2 e3
    injection e1 with e1
    injection e1 with e1
    subst e1 e3
    have hl := h.1
    rw [bC_len, List.length_append] at hl
    refine .inr ⟨g, cap, cur, rfl, hb, hh, by omega, h2, h3, ?_⟩
    have e5 : cur.toList.take (l.length * 1) = (cur.toList.take (m * 1)).take (l.length * 1) := by rw [List.take_take, Nat.min_eq_left (by omega)]
    rw [e5, h4, bC_append, Nat.mul_one]
    have : l.length = (bC l).length := (bC_len l).symm
    rw [this, List.take_left]
end Go.Proofs.YtpflbhcgkndpcaaGreatDoor
