/- Rows of stamps that may be written (out of XVec). -/
import Derived.Test.YtmbopdabbegbiaaInts2
set_option linter.unusedSimpArgs false
set_option linter.unusedVariables false
namespace Go.Proofs.Ytmbopdabbegbiaa
open Go.RowKit

/-- A block of n stamps that may be written. -/
structure ArrAt (w : World) (a n : Nat) (p q : Nat → Int) : Prop where
  c0 : ∀ j, j < n → w.cell? ⟨a, j * 2, none⟩ = some (.int .i64 (p j))
  c1 : ∀ j, j < n → w.cell? ⟨a, j * 2 + 1, none⟩ = some (.int .i64 (q j))
  fz : ∀ o, w.frozen? ⟨a, o, none⟩ = false
  lt : a < w.heap.size
theorem ArrAt.only {w w' : World} {a n b : Nat} {p q : Nat → Int} (h : ArrAt w a n p q) (k : Only b w w') (hn : a ≠ b) : ArrAt w' a n p q :=
  ⟨fun j hj => (k.cell a _ h.lt hn).trans (h.c0 j hj), fun j hj => (k.cell a _ h.lt hn).trans (h.c1 j hj), fun o => (k.frozen a o h.lt hn).trans (h.fz o), Nat.lt_of_lt_of_le h.lt k.size⟩
theorem ArrAt.below {w w' : World} {a n B : Nat} {p q : Nat → Int} (h : ArrAt w a n p q) (k : Below B w w') (hn : a < B) : ArrAt w' a n p q :=
  ⟨fun j hj => (k.cell (p := ⟨a, j * 2, none⟩) hn).trans (h.c0 j hj), fun j hj => (k.cell (p := ⟨a, j * 2 + 1, none⟩) hn).trans (h.c1 j hj), fun o => (k.frozen (p := ⟨a, o, none⟩) hn).trans (h.fz o), Nat.lt_of_lt_of_le h.lt k.size⟩
theorem ArrAt.drew {w : World} {a n : Nat} {p q : Nat → Int} (h : ArrAt w a n p q) : ArrAt w.drew a n p q := ⟨h.c0, h.c1, h.fz, h.lt⟩
theorem ArrAt.alloc {w : World} {a n : Nat} {p q : Nat → Int} (h : ArrAt w a n p q) (o : Obj) : ArrAt (w.alloc o) a n p q := h.below ((Below.refl _ _).alloc (Nat.le_refl _) o) h.lt
theorem ArrAt.pairs {w : World} {a n : Nat} {p q : Nat → Int} (h : ArrAt w a n p q) : PairsAt w (some ⟨a, 0, none⟩) n p q :=
  fun _ => ⟨a, 0, rfl, h.lt, fun j hj => ⟨by simpa using h.c0 j hj, by simpa using h.c1 j hj⟩⟩
def upd (p : Nat → Int) (i : Nat) (v : Int) : Nat → Int := fun j => if j = i then v else p j
theorem ArrAt.set {w : World} {a n i : Nat} {p q : Nat → Int} (h : ArrAt w a n p q) (hi : i < n) (x y : Int) : ArrAt ((w.setCell ⟨a, i * 2, none⟩ (.int .i64 x)).setCell ⟨a, i * 2 + 1, none⟩ (.int .i64 y)) a n (upd p i x) (upd q i y) := by
  refine ⟨fun j hj => ?_, fun j hj => ?_, fun o => by simpa using h.fz o, by simpa [World.setCell] using h.lt⟩
  · rw [World.cell?_setCell_other _ _ _ _ (by simp <;> omega)]
    unfold upd
    by_cases e : j = i
    · subst e
      rw [if_pos rfl]
      exact World.cell?_setCell_same _ _ _ (h.c0 j hj)
    · rw [if_neg e, World.cell?_setCell_other _ _ _ _ (by simp <;> omega)]
      exact h.c0 j hj
  · unfold upd
    by_cases e : j = i
    · subst e
      rw [if_pos rfl]
      exact World.cell?_setCell_same _ _ _ ((World.cell?_setCell_other _ _ _ _ (by simp)).trans (h.c1 j hj))
    · rw [if_neg e, World.cell?_setCell_other _ _ _ _ (by simp <;> omega), World.cell?_setCell_other _ _ _ _ (by simp <;> omega)]
      exact h.c1 j hj
theorem ArrAt.set_out {w : World} {a n : Nat} {p q : Nat → Int} (h : ArrAt w a n p q) {A : Addr} (hA : A.block ≠ a) (u : Value) : ArrAt (w.setCell A u) a n p q :=
  ⟨fun j hj => (World.cell?_setCell_other _ _ _ _ (fun e => hA (by rw [e]))).trans (h.c0 j hj), fun j hj => (World.cell?_setCell_other _ _ _ _ (fun e => hA (by rw [e]))).trans (h.c1 j hj), fun o => by simpa using h.fz o, by simpa [World.setCell] using h.lt⟩
end Go.Proofs.Ytmbopdabbegbiaa
