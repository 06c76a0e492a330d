/- Leases of the code and of the reference, side by side in memory. -/
import Derived.Test.YtacchkokbibeaaaLr3
set_option linter.unusedSimpArgs false
set_option linter.unusedVariables false
namespace Go.Proofs.Ytacchkokbibeaaa
open Go.RowKit Go.Sort

/-- An act in its variable: six integers. -/
structure Six (w : World) (b : Nat) (a0 a1 a2 a3 a4 a5 : Int) : Prop where
  c0 : w.cell? ⟨b, 0, none⟩ = some (.int .i64 a0)
  c1 : w.cell? ⟨b, 1, none⟩ = some (.int .i64 a1)
  c2 : w.cell? ⟨b, 2, none⟩ = some (.int .i64 a2)
  c3 : w.cell? ⟨b, 3, none⟩ = some (.int .i64 a3)
  c4 : w.cell? ⟨b, 4, none⟩ = some (.int .i64 a4)
  c5 : w.cell? ⟨b, 5, none⟩ = some (.int .i64 a5)
  lt : b < w.heap.size
theorem Six.but {S : Nat → Prop} {w w' : World} {b : Nat} {a0 a1 a2 a3 a4 a5 : Int} (h : Six w b a0 a1 a2 a3 a4 a5) (k : But S w w') (hs : ¬ S b) : Six w' b a0 a1 a2 a3 a4 a5 :=
  ⟨(k.cell b 0 h.lt hs).trans h.c0, (k.cell b 1 h.lt hs).trans h.c1, (k.cell b 2 h.lt hs).trans h.c2, (k.cell b 3 h.lt hs).trans h.c3, (k.cell b 4 h.lt hs).trans h.c4, (k.cell b 5 h.lt hs).trans h.c5, Nat.lt_of_lt_of_le h.lt k.size⟩
theorem Six.new (w : World) (a0 a1 a2 a3 a4 a5 : Int) (t : TypeId) : Six (w.alloc (.cells #[.int .i64 a0, .int .i64 a1, .int .i64 a2, .int .i64 a3, .int .i64 a4, .int .i64 a5] t)) w.heap.size a0 a1 a2 a3 a4 a5 := by constructor <;> simp
/-- The two, and where they lie. -/
structure Pr (w0 w : World) (bc bx sb : Nat) (v v' : Value) (L : List Le) (nx : Int) (M : List Le) (mx : Int) : Prop where
  c : Ls w bc v L nx
  x : Lr w bx v' M mx
  d1 : bc ≠ bx
  d2 : v.ownBlock ≠ some bx
  d3 : v'.ownBlock ≠ some bc
  d4 : ∀ i, v.ownBlock = some i → v'.ownBlock ≠ some i
  b1 : w0.heap.size ≤ bc
  b2 : w0.heap.size ≤ bx
  b3 : ∀ i, v.ownBlock = some i → w0.heap.size ≤ i
  b4 : ∀ i, v'.ownBlock = some i → w0.heap.size ≤ i
  n1 : bc ≠ sb
  n2 : bx ≠ sb
  n3 : v.ownBlock ≠ some sb
  n4 : v'.ownBlock ≠ some sb
  ls : sb < w.heap.size
  hb : Below w0.heap.size w0 w
theorem Pr.nC {w0 w : World} {bc bx sb : Nat} {v v' : Value} {L M : List Le} {nx mx : Int} (h : Pr w0 w bc bx sb v v' L nx M mx) : ¬ Foot bc v sb := by
  rintro (e | e)
  · exact h.n1 e.symm
  · exact h.n3 e
theorem Pr.nX {w0 w : World} {bc bx sb : Nat} {v v' : Value} {L M : List Le} {nx mx : Int} (h : Pr w0 w bc bx sb v v' L nx M mx) : ¬ Foot bx v' sb := by
  rintro (e | e)
  · exact h.n2 e.symm
  · exact h.n4 e
theorem Pr.ltC {w0 w : World} {bc bx sb : Nat} {v v' : Value} {L M : List Le} {nx mx : Int} (h : Pr w0 w bc bx sb v v' L nx M mx) : ∀ i, Foot bc v i → i < w.heap.size := by
  rintro i (e | e)
  · subst e; exact h.c.lt
  · exact (h.c.row.lt i e).2
theorem Pr.ltX {w0 w : World} {bc bx sb : Nat} {v v' : Value} {L M : List Le} {nx mx : Int} (h : Pr w0 w bc bx sb v v' L nx M mx) : ∀ i, Foot bx v' i → i < w.heap.size := by
  rintro i (e | e)
  · subst e; exact h.x.lt
  · exact (h.x.row.lt i e).2
theorem Pr.below {w0 w w' : World} {bc bx sb : Nat} {v v' : Value} {L M : List Le} {nx mx : Int} (h : Pr w0 w bc bx sb v v' L nx M mx) (k : Below w.heap.size w w') : Pr w0 w' bc bx sb v v' L nx M mx :=
  { h with c := h.c.below k, x := h.x.below k, ls := Nat.lt_of_lt_of_le h.ls k.size, hb := h.hb.trans (k.mono h.hb.size) }
theorem Pr.setS {w0 w : World} {bc bx sb : Nat} {v v' : Value} {L M : List Le} {nx mx : Int} (h : Pr w0 w bc bx sb v v' L nx M mx) : Pr w0 w bc bx sb v v' L nx M mx := h
/-- Behind a call of the code's. -/
theorem Pr.callC {w0 w w' : World} {bc bx sb : Nat} {v v' : Value} {L M L2 : List Le} {nx mx nx2 : Int} (h : Pr w0 w bc bx sb v v' L nx M mx) (k : StC bc v L2 nx2 w w') : (∃ v2, Pr w0 w' bc bx sb v2 v' L2 nx2 M mx) ∧ But (Foot bc v) w w' := by
  obtain ⟨v2, k1, k2, k3⟩ := k
  have hB : w0.heap.size ≤ w.heap.size := h.hb.size
  have hl := h.x.lt
  have hl2 := h.c.lt
  have hls := h.ls
  refine ⟨⟨v2, { c := k1, x := h.x.but k2 (fun i hi hf => ?_), d1 := h.d1, d2 := fun e => ?_, d3 := h.d3, d4 := fun i hi e => ?_, b1 := h.b1, b2 := h.b2, b3 := fun i hi => ?_, b4 := h.b4, n1 := h.n1, n2 := h.n2, n3 := fun e => ?_, n4 := h.n4, ls := Nat.lt_of_lt_of_le h.ls k2.size, hb := h.hb.trans (k2.below (fun i hi => ?_) hB) }⟩, k2⟩
  · rcases hi with rfl | hi
    · rcases hf with e | e
      · exact h.d1 e.symm
      · exact h.d2 e
    · rcases hf with e | e
      · subst e; exact h.d3 hi
      · exact h.d4 i e hi
  · rcases k3 _ e with q | q
    · exact h.d2 q
    · omega
  · rcases k3 _ hi with q | q
    · exact h.d4 i q e
    · have := h.ltX i (.inr e); omega
  · rcases k3 _ hi with q | q
    · exact h.b3 i q
    · omega
  · rcases k3 _ e with q | q
    · exact h.n3 q
    · omega
  · rcases hi with rfl | hi
    · exact h.b1
    · exact h.b3 i hi
/-- Behind a call of the reference's. -/
theorem Pr.callX {w0 w w' : World} {bc bx sb : Nat} {v v' : Value} {L M M2 : List Le} {nx mx mx2 : Int} (h : Pr w0 w bc bx sb v v' L nx M mx) (k : StR bx v' M2 mx2 w w') : (∃ v2, Pr w0 w' bc bx sb v v2 L nx M2 mx2) ∧ But (Foot bx v') w w' := by
  obtain ⟨v2, k1, k2, k3⟩ := k
  have hB : w0.heap.size ≤ w.heap.size := h.hb.size
  have hl := h.x.lt
  have hl2 := h.c.lt
  have hls := h.ls
  refine ⟨⟨v2, { c := h.c.but k2 (fun i hi hf => ?_), x := k1, d1 := h.d1, d2 := h.d2, d3 := fun e => ?_, d4 := fun i hi e => ?_, b1 := h.b1, b2 := h.b2, b3 := h.b3, b4 := fun i hi => ?_, n1 := h.n1, n2 := h.n2, n3 := h.n3, n4 := fun e => ?_, ls := Nat.lt_of_lt_of_le h.ls k2.size, hb := h.hb.trans (k2.below (fun i hi => ?_) hB) }⟩, k2⟩
  · rcases hi with rfl | hi
    · rcases hf with e | e
      · exact h.d1 e
      · exact h.d3 e
    · rcases hf with e | e
      · subst e; exact h.d2 hi
      · exact h.d4 i hi e
  · rcases k3 _ e with q | q
    · exact h.d3 q
    · omega
  · rcases k3 _ e with q | q
    · exact h.d4 i hi q
    · have := h.ltC i (.inr hi); omega
  · rcases k3 _ hi with q | q
    · exact h.b4 i q
    · omega
  · rcases k3 _ e with q | q
    · exact h.n4 q
    · omega
  · rcases hi with rfl | hi
    · exact h.b2
    · exact h.b4 i hi
/-- What the loop keeps. -/
structure LpRel (w0 : World) (bc bx : Nat) (k : Nat) (wr : World) : Prop where
  ex : ∃ v v' L nx, Ls wr bc v L nx ∧ Lr wr bx v' L nx ∧ LeG L nx k ∧ bc ≠ bx ∧ v.ownBlock ≠ some bx ∧ v'.ownBlock ≠ some bc ∧ (∀ i, v.ownBlock = some i → v'.ownBlock ≠ some i) ∧ w0.heap.size ≤ bc ∧ w0.heap.size ≤ bx ∧ (∀ i, v.ownBlock = some i → w0.heap.size ≤ i) ∧ (∀ i, v'.ownBlock = some i → w0.heap.size ≤ i)
  hb : Below w0.heap.size w0 wr
/-- A round begins: its variable is made. -/
theorem LpRel.start {w0 wr : World} {bc bx k : Nat} (h : LpRel w0 bc bx k wr) (o : Obj) : ∃ v v' L nx, Pr w0 (wr.alloc o) bc bx wr.heap.size v v' L nx L nx ∧ LeG L nx k := by
  obtain ⟨⟨v, v', L, nx, h1, h2, h3, d1, d2, d3, d4, b1, b2, b3, b4⟩, hb⟩ := h
  have e1 := h1.lt
  have e2 := h2.lt
  refine ⟨v, v', L, nx, { c := h1.alloc o, x := h2.alloc o, d1 := d1, d2 := d2, d3 := d3, d4 := d4, b1 := b1, b2 := b2, b3 := b3, b4 := b4, n1 := by omega, n2 := by omega, n3 := fun e => by have := (h1.row.lt _ e).2; omega, n4 := fun e => by have := (h2.row.lt _ e).2; omega, ls := by simp, hb := hb.alloc hb.size o }, h3⟩
theorem Pr.fin {w0 w : World} {bc bx sb k : Nat} {v v' : Value} {L : List Le} {nx : Int} (h : Pr w0 w bc bx sb v v' L nx L nx) (g : LeG L nx k) : LpRel w0 bc bx k w :=
  ⟨⟨v, v', L, nx, h.c, h.x, g, h.d1, h.d2, h.d3, h.d4, h.b1, h.b2, h.b3, h.b4⟩, h.hb⟩
/-- Three numbers in a row that the call made. -/
structure Tri (w : World) (b : Nat) (a m : Int) : Prop where
  c0 : w.cell? ⟨b, 0, none⟩ = some (.int .i64 a)
  c1 : w.cell? ⟨b, 1, none⟩ = some (.int .i64 m)
  c2 : w.cell? ⟨b, 2, none⟩ = some (.int .i64 a)
  lt : b < w.heap.size
theorem Tri.new (w : World) (a m : Int) (t : TypeId) : Tri (w.alloc (.cells #[.int .i64 a, .int .i64 m, .int .i64 a] t)) w.heap.size a m := by constructor <;> simp
theorem Tri.but {S : Nat → Prop} {w w' : World} {b : Nat} {a m : Int} (h : Tri w b a m) (k : But S w w') (hs : ¬ S b) : Tri w' b a m :=
  ⟨(k.cell b 0 h.lt hs).trans h.c0, (k.cell b 1 h.lt hs).trans h.c1, (k.cell b 2 h.lt hs).trans h.c2, Nat.lt_of_lt_of_le h.lt k.size⟩
theorem Tri.ids {w : World} {b : Nat} {a m : Int} (h : Tri w b a m) : ∀ (j : Nat) (i : Int), ([a, m, a] : List Int)[j]? = some i → w.cell? ⟨b, j, none⟩ = some (.int .i64 i) := by
  intro j i hj
  match j, hj with
  | 0, hj => injection hj with hj; subst hj; exact h.c0
  | 1, hj => injection hj with hj; subst hj; exact h.c1
  | 2, hj => injection hj with hj; subst hj; exact h.c2
end Go.Proofs.Ytacchkokbibeaaa
