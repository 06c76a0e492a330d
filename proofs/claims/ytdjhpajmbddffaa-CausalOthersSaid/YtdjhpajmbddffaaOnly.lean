/- A call that writes into one old block alone, and makes new ones. -/
import Derived.Test.YtdjhpajmbddffaaBase
set_option linter.unusedSimpArgs false
set_option linter.unusedVariables false
namespace Go.Proofs.Ytdjhpajmbddffaa
open Go.RowKit

/-- But for block b all that was there is as it was. -/
structure Only (b : Nat) (w w' : World) : Prop where
  os : w'.os = w.os
  tape : w'.tape = w.tape
  output : w'.output = w.output
  size : w.heap.size ≤ w'.heap.size
  block : ∀ k, k < w.heap.size → k ≠ b → w'.heap[k]? = w.heap[k]?
theorem Only.refl (b : Nat) (w : World) : Only b w w := ⟨rfl, rfl, rfl, Nat.le_refl _, fun _ _ _ => rfl⟩
theorem Only.trans {b : Nat} {a w x : World} (h : Only b a w) (k : Only b w x) : Only b a x :=
  ⟨k.os.trans h.os, k.tape.trans h.tape, k.output.trans h.output, Nat.le_trans h.size k.size, fun i hi hn => (k.block i (Nat.lt_of_lt_of_le hi h.size) hn).trans (h.block i hi hn)⟩
theorem Only.of_below {b : Nat} {w w' : World} (h : Below w.heap.size w w') : Only b w w' := ⟨h.os, h.tape, h.output, h.size, fun k hk _ => h.block k hk⟩
theorem Only.below {b B : Nat} {w w' : World} (h : Only b w w') (h1 : B ≤ b) (h2 : B ≤ w.heap.size) : Below B w w' := ⟨h.os, h.tape, h.output, h.size, fun k hk => h.block k (by omega) (by omega)⟩
theorem Only.alloc {b : Nat} {a w : World} (h : Only b a w) (o : Obj) : Only b a (w.alloc o) := h.trans (Only.of_below ((Below.refl _ _).alloc (Nat.le_refl _) _))
theorem Only.setCell {b : Nat} {a w : World} (h : Only b a w) {p : Addr} (hp : p.block = b ∨ a.heap.size ≤ p.block) (u : Value) : Only b a (w.setCell p u) :=
  ⟨h.os, h.tape, h.output, by simpa [World.setCell] using h.size, fun i hi hne => (Below.heap_setCell w p u i (by
    rintro rfl
    rcases hp with hp | hp
    · exact hne hp
    · omega)).trans (h.block i hi hne)⟩
theorem Only.setB {b o : Nat} {a w : World} (h : Only b a w) (u : Value) : Only b a (w.setCell ⟨b, o, none⟩ u) := h.setCell (Or.inl rfl) u
theorem Only.drew {b : Nat} {a w : World} (h : Only b a w) : Only b a w.drew := ⟨h.os, h.tape, h.output, h.size, h.block⟩
theorem Only.drewN {b : Nat} {a w : World} (h : Only b a w) (n : Nat) : Only b a (w.drewN n) := ⟨h.os, h.tape, h.output, h.size, h.block⟩
theorem Only.cell {b : Nat} {w w' : World} (h : Only b w w') : ∀ k o, k < w.heap.size → k ≠ b → w'.cell? ⟨k, o, none⟩ = w.cell? ⟨k, o, none⟩ := fun k o hk hn => World.cell?_of_block (w := w) (h.block k hk hn)
theorem Only.frozen {b : Nat} {w w' : World} (h : Only b w w') : ∀ k o, k < w.heap.size → k ≠ b → w'.frozen? ⟨k, o, none⟩ = w.frozen? ⟨k, o, none⟩ := fun k o hk hn => World.frozen?_of_block (w := w) (h.block k hk hn)

/-- Three integers at the head of a block that may be written. -/
structure Ints3 (w : World) (b : Nat) (x y z : Int) : Prop where
  c0 : w.cell? ⟨b, 0, none⟩ = some (.int .i64 x)
  c1 : w.cell? ⟨b, 1, none⟩ = some (.int .i64 y)
  c2 : w.cell? ⟨b, 2, none⟩ = some (.int .i64 z)
  f0 : w.frozen? ⟨b, 0, none⟩ = false
  f1 : w.frozen? ⟨b, 1, none⟩ = false
  f2 : w.frozen? ⟨b, 2, none⟩ = false
  lt : b < w.heap.size
theorem Ints3.only {w w' : World} {b c : Nat} {x y z : Int} (h : Ints3 w b x y z) (k : Only c w w') (hn : b ≠ c) : Ints3 w' b x y z :=
  ⟨(k.cell b 0 h.lt hn).trans h.c0, (k.cell b 1 h.lt hn).trans h.c1, (k.cell b 2 h.lt hn).trans h.c2, (k.frozen b 0 h.lt hn).trans h.f0, (k.frozen b 1 h.lt hn).trans h.f1, (k.frozen b 2 h.lt hn).trans h.f2, Nat.lt_of_lt_of_le h.lt k.size⟩
theorem Ints3.below {w w' : World} {b B : Nat} {x y z : Int} (h : Ints3 w b x y z) (k : Below B w w') (hn : b < B) : Ints3 w' b x y z :=
  ⟨(k.cell (p := ⟨b, 0, none⟩) hn).trans h.c0, (k.cell (p := ⟨b, 1, none⟩) hn).trans h.c1, (k.cell (p := ⟨b, 2, none⟩) hn).trans h.c2, (k.frozen (p := ⟨b, 0, none⟩) hn).trans h.f0, (k.frozen (p := ⟨b, 1, none⟩) hn).trans h.f1, (k.frozen (p := ⟨b, 2, none⟩) hn).trans h.f2, Nat.lt_of_lt_of_le h.lt k.size⟩
theorem Ints3.alloc {w : World} {b : Nat} {x y z : Int} (h : Ints3 w b x y z) (o : Obj) : Ints3 (w.alloc o) b x y z := h.below ((Below.refl _ _).alloc (Nat.le_refl _) o) h.lt
theorem Ints3.drewN {w : World} {b : Nat} {x y z : Int} (h : Ints3 w b x y z) (n : Nat) : Ints3 (w.drewN n) b x y z := ⟨h.c0, h.c1, h.c2, h.f0, h.f1, h.f2, h.lt⟩
theorem Ints3.drew {w : World} {b : Nat} {x y z : Int} (h : Ints3 w b x y z) : Ints3 w.drew b x y z := ⟨h.c0, h.c1, h.c2, h.f0, h.f1, h.f2, h.lt⟩
theorem Ints3.other {w : World} {b : Nat} {x y z : Int} (h : Ints3 w b x y z) {p : Addr} (hp : p.block ≠ b) (u : Value) : Ints3 (w.setCell p u) b x y z := by
  have e : ∀ o, (w.setCell p u).cell? ⟨b, o, none⟩ = w.cell? ⟨b, o, none⟩ := fun o => World.cell?_setCell_other _ _ _ _ (fun e => hp (by rw [e]))
  have f : ∀ o, (w.setCell p u).frozen? ⟨b, o, none⟩ = w.frozen? ⟨b, o, none⟩ := fun o => by simp
  exact ⟨(e 0).trans h.c0, (e 1).trans h.c1, (e 2).trans h.c2, (f 0).trans h.f0, (f 1).trans h.f1, (f 2).trans h.f2, by simpa [World.setCell] using h.lt⟩
theorem Ints3.set0 {w : World} {b : Nat} {x y z : Int} (h : Ints3 w b x y z) (u : Int) : Ints3 (w.setCell ⟨b, 0, none⟩ (.int .i64 u)) b u y z := by
  have h' := h
  obtain ⟨c0, c1, c2, f0, f1, f2, l⟩ := h'
  exact ⟨World.cell?_setCell_same _ _ _ c0, by rw [World.cell?_setCell_other _ _ _ _ (by simp)]; exact c1, by rw [World.cell?_setCell_other _ _ _ _ (by simp)]; exact c2, by simpa using f0, by simpa using f1, by simpa using f2, by simpa [World.setCell] using l⟩
theorem Ints3.set1 {w : World} {b : Nat} {x y z : Int} (h : Ints3 w b x y z) (u : Int) : Ints3 (w.setCell ⟨b, 1, none⟩ (.int .i64 u)) b x u z := by
  obtain ⟨c0, c1, c2, f0, f1, f2, l⟩ := h
  exact ⟨by rw [World.cell?_setCell_other _ _ _ _ (by simp)]; exact c0, World.cell?_setCell_same _ _ _ c1, by rw [World.cell?_setCell_other _ _ _ _ (by simp)]; exact c2, by simpa using f0, by simpa using f1, by simpa using f2, by simpa [World.setCell] using l⟩
theorem Ints3.set2 {w : World} {b : Nat} {x y z : Int} (h : Ints3 w b x y z) (u : Int) : Ints3 (w.setCell ⟨b, 2, none⟩ (.int .i64 u)) b x y u := by
  obtain ⟨c0, c1, c2, f0, f1, f2, l⟩ := h
  exact ⟨by rw [World.cell?_setCell_other _ _ _ _ (by simp)]; exact c0, by rw [World.cell?_setCell_other _ _ _ _ (by simp)]; exact c1, World.cell?_setCell_same _ _ _ c2, by simpa using f0, by simpa using f1, by simpa using f2, by simpa [World.setCell] using l⟩
theorem Ints3.new (w : World) (x y z : Int) (t : TypeId) : Ints3 (w.alloc (.cells #[.int .i64 x, .int .i64 y, .int .i64 z] t)) w.heap.size x y z := by
  constructor <;> simp
end Go.Proofs.Ytdjhpajmbddffaa
