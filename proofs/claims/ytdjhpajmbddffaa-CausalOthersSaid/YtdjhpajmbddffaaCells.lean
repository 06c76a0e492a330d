/- Integers as cells; a row of pairs that the call owns. -/
import Derived.Test.YtdjhpajmbddffaaInts2
import Derived.Test.YtdjhpajmbddffaaArgFlat
import Derived.Laws.AppendOwn
import Derived.Laws.AppendOwnNone
import Derived.Laws.OwnMore
set_option linter.unusedSimpArgs false
set_option linter.unusedVariables false
namespace Go.Proofs.Ytdjhpajmbddffaa
open Go.ChangeShapes Go.WideShapes Go.ChangeAt Go.RowKit Go.Joins

def cellsOf (z : Nat → Int) (k : Nat) : List Value := (List.range k).map fun j => .int .i64 (z j)
theorem cellsOf_len (z : Nat → Int) (k : Nat) : (cellsOf z k).length = k := by simp [cellsOf]
theorem cellsOf_at (z : Nat → Int) (k j : Nat) (h : j < k) : (cellsOf z k)[j]? = some (.int .i64 (z j)) := by simp [cellsOf, h]
theorem cellsOf_some {z : Nat → Int} {k j : Nat} {u : Value} (h : (cellsOf z k)[j]? = some u) : j < k ∧ u = .int .i64 (z j) := by
  rcases (show j < k ∨ k ≤ j from by omega) with hj | hj
  · rw [cellsOf_at z k j hj] at h
    exact ⟨hj, by injection h with h; exact h.symm⟩
  · rw [List.getElem?_eq_none (by rw [cellsOf_len]; exact hj)] at h
    cases h
theorem cellsOf_one (z : Nat → Int) (k : Nat) : ∀ u ∈ cellsOf z k, u.oneCell' = true := by
  intro u hu
  simp [cellsOf] at hu
  obtain ⟨j, _, rfl⟩ := hu
  rfl
theorem at_add (B O j : Nat) : (Addr.mk B O none).add j = ⟨B, O + j, none⟩ := add_plain _ _ _
/-- A source's cells, address by address. -/
theorem FlatAt.cells {w : World} {ad : Addr} {m n : Nat} {z : Nat → Int} (h : FlatAt w (some ad) m n z) : ∀ j u, (cellsOf z (n * m))[j]? = some u → w.cell? (ad.add j) = some u := by
  intro j u hu
  obtain ⟨hj, rfl⟩ := cellsOf_some hu
  have hn : 0 < n := by
    rcases Nat.eq_zero_or_pos n with h0 | h0
    · subst h0; simp at hj
    · exact h0
  obtain ⟨B', O', he, _, hc⟩ := h hn
  injection he with he
  subst he
  rw [at_add]
  exact (hc j hj).1
theorem FlatAt.below {w w' : World} {A : Option Addr} {m n : Nat} {z : Nat → Int} (h : FlatAt w A m n z) (k : Below w.heap.size w w') : FlatAt w' A m n z := by
  intro h0
  obtain ⟨B, O, rfl, hB, hc⟩ := h h0
  exact ⟨B, O, rfl, Nat.lt_of_lt_of_le hB k.size, fun j hj => ⟨(k.cell (p := ⟨B, O + j, none⟩) hB).trans (hc j hj).1, (hc j hj).2⟩⟩
/-- A slice without an address is nil. -/
theorem nil_shape {H : Type} {enc : TypeId × Value → H} {P : Program} {w : World} {base : Nat} {sp : Nat → Bool} {t e : TypeId} {n c : Nat} {d : DataW H} {p : List MemPlace}
    (ht : P.underlying t = some (.slice e)) (h : DataW.Trod enc P w base sp true t (.slice none n c) d p) : n = 0 ∧ c = 0 := by
  obtain ⟨fuel, hf⟩ := h
  rcases Go.Deep.open_slice ht hf with ⟨hcs, _⟩ | ⟨a, len', cap', mm, k, D, Pl, hcs, _⟩
  · simpa [Value.cells] using hcs
  · simp [Value.cells] at hcs
theorem FlatAt.pairs {w : World} {A : Option Addr} {n : Nat} {z : Nat → Int} (h : FlatAt w A 2 n z) : PairsAt w A n (fun j => z (j * 2)) (fun j => z (j * 2 + 1)) := by
  intro hn
  obtain ⟨B, O, rfl, hB, hc⟩ := h hn
  exact ⟨B, O, rfl, hB, fun j hj => ⟨(hc (j * 2) (by omega)).1, by rw [Nat.add_assoc]; exact (hc (j * 2 + 1) (by omega)).1⟩⟩
/-- What the call owns reads as pairs. -/
theorem own_pairs {w : World} {base : Nat} {e : TypeId} {v : Value} {n : Nat} {z : Nat → Int} (h : w.ownsRow base e 2 v n (cellsOf z (n * 2))) :
    ∃ (A : Option Addr) (c : Nat), v = .slice A n c ∧ PairsAt w A n (fun j => z (j * 2)) (fun j => z (j * 2 + 1)) := by
  have hc0 := fun g hg => h.cells (g := g) hg
  rcases h.2 with ⟨rfl, rfl⟩ | ⟨g, cap, cur, rfl, hb, hh, _⟩
  · exact ⟨none, 0, rfl, fun hn => absurd hn (by omega)⟩
  · refine ⟨_, _, rfl, fun hn => ⟨g, 0, rfl, ?_, fun j hj => ?_⟩⟩
    · exact (h.lt g rfl).2
    · have hc := hc0 g rfl
      refine ⟨?_, ?_⟩
      · have := hc (j * 2) _ (cellsOf_at z (n * 2) (j * 2) (by omega))
        rwa [at_add] at this
      · have := hc (j * 2 + 1) _ (cellsOf_at z (n * 2) (j * 2 + 1) (by omega))
        rwa [at_add, ← Nat.add_assoc] at this
end Go.Proofs.Ytdjhpajmbddffaa
