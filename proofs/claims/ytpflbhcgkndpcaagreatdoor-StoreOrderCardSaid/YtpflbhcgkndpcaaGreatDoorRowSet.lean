/- A row of the call's own whose cells are written one behind the other. -/
import Derived.Test.YtpflbhcgkndpcaaGreatDoorBut
import Derived.Laws.IdiomCopy
set_option linter.unusedSimpArgs false
set_option linter.unusedVariables false
namespace Go.Proofs.YtpflbhcgkndpcaaGreatDoor
open Go.RowKit

theorem heap_setCell1 {w : World} {g o : Nat} {cur : Array Value} {t : TypeId} {fr : Nat × Nat} (h : w.heap[g]? = some (.cells cur t fr)) (u : Value) : (w.setCell ⟨g, o, none⟩ u).heap[g]? = some (.cells (cur.setIfInBounds o u) t fr) := by
  simp [World.setCell, Array.getElem?_modify, h]
theorem heap_setCells {g : Nat} {t : TypeId} {fr : Nat × Nat} : ∀ (us : List Value) (o : Nat) (w : World) (cur : Array Value), w.heap[g]? = some (.cells cur t fr) → ∃ cur', (w.setCells g o us).heap[g]? = some (.cells cur' t fr) ∧ cur'.size = cur.size
  | [], _, _, cur, h => ⟨cur, h, rfl⟩
  | u :: r, o, w, cur, h => by
    obtain ⟨c', h1, h2⟩ := heap_setCells r (o + 1) _ _ (heap_setCell1 h u)
    exact ⟨c', h1, by rw [h2]; simp⟩
theorem only_setCells {a : World} (g : Nat) : ∀ (us : List Value) (o : Nat) (w : World), Only g a w → Only g a (w.setCells g o us)
  | [], _, _, h => h
  | u :: r, o, w, h => only_setCells g r (o + 1) _ (h.setB u)
/-- A row out of its block and its cells. -/
theorem row_of_cells {w : World} {g cap n size : Nat} {e : TypeId} {cur : Array Value} {xs : List Value} (h : w.heap[g]? = some (.cells cur e (0, 0))) (h1 : cur.size = cap * size) (h2 : n ≤ cap) (h3 : cap ≤ maxLen) (h4 : xs.length = n * size)
    (h5 : ∀ j u, xs[j]? = some u → w.cell? ⟨g, j, none⟩ = some u) : w.ownsRow 0 e size (.slice (some ⟨g, 0, none⟩) n cap) n xs := by
  refine ⟨h4, .inr ⟨g, cap, cur, rfl, Nat.zero_le _, h, h2, h3, h1, ?_⟩⟩
  have hle : n * size ≤ cap * size := Nat.mul_le_mul_right _ h2
  apply List.ext_getElem?
  intro j
  rw [List.getElem?_take]
  by_cases hj : j < n * size
  · rw [if_pos hj, Array.getElem?_toList, ← cell_of_row w g j cur e (0, 0) h, List.getElem?_eq_getElem (by omega)]
    exact h5 j _ (List.getElem?_eq_getElem (by omega))
  · rw [if_neg hj, List.getElem?_eq_none (by omega)]
/-- What a row's block is. -/
theorem row_block {w : World} {base : Nat} {e : TypeId} {size : Nat} {g cap n : Nat} {xs : List Value} (k : w.ownsRow base e size (.slice (some ⟨g, 0, none⟩) n cap) n xs) : ∃ cur, w.heap[g]? = some (.cells cur e (0, 0)) ∧ cur.size = cap * size ∧ n ≤ cap ∧ cap ≤ maxLen ∧ xs.length = n * size := by
  rcases k.2 with ⟨h, _⟩ | ⟨g', cap', cur, h, _, hh, h1, h2, h3, _⟩
  · cases h
  · injection h with a1 a2 a3
    injection a1 with a1
    injection a1 with a1
    subst a1
    subst a3
    exact ⟨cur, hh, h3, h1, h2, k.1⟩
theorem row_there {w : World} {g cap : Nat} {e : TypeId} {size : Nat} {cur : Array Value} (h : w.heap[g]? = some (.cells cur e (0, 0))) (h1 : cur.size = cap * size) {j : Nat} (hj : j < cap * size) : (w.cell? ⟨g, j, none⟩).isSome = true ∧ w.frozen? ⟨g, j, none⟩ = false := by
  refine ⟨?_, by simp [World.frozen?, h]⟩
  rw [cell_of_row w g j cur e (0, 0) h, Array.getElem?_eq_getElem (by omega)]
  rfl
end Go.Proofs.YtpflbhcgkndpcaaGreatDoor
