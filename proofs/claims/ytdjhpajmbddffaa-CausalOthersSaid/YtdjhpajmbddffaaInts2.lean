/- Two ints at a block's head; pairs of ints at a slice's head; the greatest of stamps. -/
import Derived.Test.YtdjhpajmbddffaaOnly
set_option linter.unusedSimpArgs false
set_option linter.unusedVariables false
namespace Go.Proofs.Ytdjhpajmbddffaa
open Go.RowKit

structure Ints2 (w : World) (b : Nat) (x y : Int) : Prop where
  c0 : w.cell? ⟨b, 0, none⟩ = some (.int .i64 x)
  c1 : w.cell? ⟨b, 1, none⟩ = some (.int .i64 y)
  f0 : w.frozen? ⟨b, 0, none⟩ = false
  f1 : w.frozen? ⟨b, 1, none⟩ = false
  lt : b < w.heap.size
theorem Ints2.only {w w' : World} {b c : Nat} {x y : Int} (h : Ints2 w b x y) (k : Only c w w') (hn : b ≠ c) : Ints2 w' b x y :=
  ⟨(k.cell b 0 h.lt hn).trans h.c0, (k.cell b 1 h.lt hn).trans h.c1, (k.frozen b 0 h.lt hn).trans h.f0, (k.frozen b 1 h.lt hn).trans h.f1, Nat.lt_of_lt_of_le h.lt k.size⟩
theorem Ints2.below {w w' : World} {b B : Nat} {x y : Int} (h : Ints2 w b x y) (k : Below B w w') (hn : b < B) : Ints2 w' b x y :=
  ⟨(k.cell (p := ⟨b, 0, none⟩) hn).trans h.c0, (k.cell (p := ⟨b, 1, none⟩) hn).trans h.c1, (k.frozen (p := ⟨b, 0, none⟩) hn).trans h.f0, (k.frozen (p := ⟨b, 1, none⟩) hn).trans h.f1, Nat.lt_of_lt_of_le h.lt k.size⟩
theorem Ints2.alloc {w : World} {b : Nat} {x y : Int} (h : Ints2 w b x y) (o : Obj) : Ints2 (w.alloc o) b x y := h.below ((Below.refl _ _).alloc (Nat.le_refl _) o) h.lt
theorem Ints2.drewN {w : World} {b : Nat} {x y : Int} (h : Ints2 w b x y) (n : Nat) : Ints2 (w.drewN n) b x y := ⟨h.c0, h.c1, h.f0, h.f1, h.lt⟩
theorem Ints2.drew {w : World} {b : Nat} {x y : Int} (h : Ints2 w b x y) : Ints2 w.drew b x y := ⟨h.c0, h.c1, h.f0, h.f1, h.lt⟩
theorem Ints2.other {w : World} {b : Nat} {x y : Int} (h : Ints2 w b x y) {p : Addr} (hp : p.block ≠ b) (u : Value) : Ints2 (w.setCell p u) b x y := by
  have e : ∀ o, (w.setCell p u).cell? ⟨b, o, none⟩ = w.cell? ⟨b, o, none⟩ := fun o => World.cell?_setCell_other _ _ _ _ (fun e => hp (by rw [e]))
  have f : ∀ o, (w.setCell p u).frozen? ⟨b, o, none⟩ = w.frozen? ⟨b, o, none⟩ := fun o => by simp
  exact ⟨(e 0).trans h.c0, (e 1).trans h.c1, (f 0).trans h.f0, (f 1).trans h.f1, by simpa [World.setCell] using h.lt⟩
theorem Ints2.set0 {w : World} {b : Nat} {x y : Int} (h : Ints2 w b x y) (u : Int) : Ints2 (w.setCell ⟨b, 0, none⟩ (.int .i64 u)) b u y := by
  obtain ⟨c0, c1, f0, f1, l⟩ := h
  exact ⟨World.cell?_setCell_same _ _ _ c0, by rw [World.cell?_setCell_other _ _ _ _ (by simp)]; exact c1, by simpa using f0, by simpa using f1, by simpa [World.setCell] using l⟩
theorem Ints2.set1 {w : World} {b : Nat} {x y : Int} (h : Ints2 w b x y) (u : Int) : Ints2 (w.setCell ⟨b, 1, none⟩ (.int .i64 u)) b x u := by
  obtain ⟨c0, c1, f0, f1, l⟩ := h
  exact ⟨by rw [World.cell?_setCell_other _ _ _ _ (by simp)]; exact c0, World.cell?_setCell_same _ _ _ c1, by simpa using f0, by simpa using f1, by simpa [World.setCell] using l⟩
theorem Ints2.new (w : World) (x y : Int) (t : TypeId) : Ints2 (w.alloc (.cells #[.int .i64 x, .int .i64 y] t)) w.heap.size x y := by
  constructor <;> simp
theorem Ints2.new1 (w : World) (o : Obj) (x y : Int) (t : TypeId) : Ints2 ((w.alloc o).alloc (.cells #[.int .i64 x, .int .i64 y] t)) (w.heap.size + 1) x y := by
  have h := Ints2.new (w.alloc o) x y t
  rwa [World.size_alloc] at h
/-- n pairs of integers at a slice's head. -/
def PairsAt (w : World) (A : Option Addr) (n : Nat) (p q : Nat → Int) : Prop :=
  0 < n → ∃ B O, A = some ⟨B, O, none⟩ ∧ B < w.heap.size ∧ ∀ j, j < n → w.cell? ⟨B, O + j * 2, none⟩ = some (.int .i64 (p j)) ∧ w.cell? ⟨B, O + j * 2 + 1, none⟩ = some (.int .i64 (q j))
theorem PairsAt.below {w w' : World} {A : Option Addr} {n : Nat} {p q : Nat → Int} (h : PairsAt w A n p q) (k : Below w.heap.size w w') : PairsAt w' A n p q := by
  intro h0
  obtain ⟨B, O, rfl, hB, hc⟩ := h h0
  exact ⟨B, O, rfl, Nat.lt_of_lt_of_le hB k.size, fun j hj => ⟨(k.cell (p := ⟨B, O + j * 2, none⟩) hB).trans (hc j hj).1, (k.cell (p := ⟨B, O + j * 2 + 1, none⟩) hB).trans (hc j hj).2⟩⟩
end Go.Proofs.Ytdjhpajmbddffaa
