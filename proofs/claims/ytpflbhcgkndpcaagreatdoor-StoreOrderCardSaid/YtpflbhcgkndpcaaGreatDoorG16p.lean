/- Integers as cells; a row of pairs that the call owns. -/
import Derived.Test.YtpflbhcgkndpcaaGreatDoorBase
import Derived.Test.YtpflbhcgkndpcaaGreatDoorLaw
import Derived.Deep.Slices
import Derived.Laws.AppendOwn
import Derived.Laws.AppendOwnNone
import Derived.Laws.OwnMore
/- A call that writes into one old block alone, and makes new ones. -/
set_option linter.unusedSimpArgs false
set_option linter.unusedVariables false
namespace Go.Proofs.YtpflbhcgkndpcaaGreatDoor
open Go.RowKit

/-- But for block b all that was there is as it was. -/
structure Only (b : Nat) (w w' : World) : Prop where
  os : w'.os = w.os
  tape : w'.tape = w.tape
  output : w'.output = w.output
  size : w.heap.size ≤ w'.heap.size
  block : ∀ k, k < w.heap.size → k ≠ b → w'.heap[k]? = w.heap[k]?
theorem Only.refl (b : Nat) (w : World) : Only b w w := ⟨rfl, rfl, rfl, Nat.le_refl _, fun _ _ _ => rfl⟩
theorem Only.trans {b : Nat} {a w x : World} (h : Only b a w) (k : Only b w x) : Only b a x :=
  ⟨k.os.trans h.os, k.tape.trans h.tape, k.output.trans h.output, Nat.le_trans h.size k.size, fun i hi hn => (k.block i (Nat.lt_of_lt_of_le hi h.size) hn).trans (h.block i hi hn)⟩
theorem Only.of_below {b : Nat} {w w' : World} (h : Below w.heap.size w w') : Only b w w' := ⟨h.os, h.tape, h.output, h.size, fun k hk _ => h.block k hk⟩
theorem Only.below {b B : Nat} {w w' : World} (h : Only b w w') (h1 : B ≤ b) (h2 : B ≤ w.heap.size) : Below B w w' := ⟨h.os, h.tape, h.output, h.size, fun k hk => h.block k (by omega) (by omega)⟩
theorem Only.alloc {b : Nat} {a w : World} (h : Only b a w) (o : Obj) : Only b a (w.alloc o) := h.trans (Only.of_below ((Below.refl _ _).alloc (Nat.le_refl _) _))
theorem Only.setCell {b : Nat} {a w : World} (h : Only b a w) {p : Addr} (hp : p.block = b ∨ a.heap.size ≤ p.block) (u : Value) : Only b a (w.setCell p u) :=
  ⟨h.os, h.tape, h.output, by simpa [World.setCell] using h.size, fun i hi hne => (Below.heap_setCell w p u i (by
    rintro rfl
    rcases hp with hp | hp
    · exact hne hp
    · omega)).trans (h.block i hi hne)⟩
theorem Only.setB {b o : Nat} {a w : World} (h : Only b a w) (u : Value) : Only b a (w.setCell ⟨b, o, none⟩ u) := h.setCell (Or.inl rfl) u
theorem Only.drew {b : Nat} {a w : World} (h : Only b a w) : Only b a w.drew := ⟨h.os, h.tape, h.output, h.size, h.block⟩
theorem Only.drewN {b : Nat} {a w : World} (h : Only b a w) (n : Nat) : Only b a (w.drewN n) := ⟨h.os, h.tape, h.output, h.size, h.block⟩
theorem Only.cell {b : Nat} {w w' : World} (h : Only b w w') : ∀ k o, k < w.heap.size → k ≠ b → w'.cell? ⟨k, o, none⟩ = w.cell? ⟨k, o, none⟩ := fun k o hk hn => World.cell?_of_block (w := w) (h.block k hk hn)
theorem Only.frozen {b : Nat} {w w' : World} (h : Only b w w') : ∀ k o, k < w.heap.size → k ≠ b → w'.frozen? ⟨k, o, none⟩ = w.frozen? ⟨k, o, none⟩ := fun k o hk hn => World.frozen?_of_block (w := w) (h.block k hk hn)

/-- Three integers at the head of a block that may be written. -/
structure Ints3 (w : World) (b : Nat) (x y z : Int) : Prop where
  c0 : w.cell? ⟨b, 0, none⟩ = some (.int .i64 x)
  c1 : w.cell? ⟨b, 1, none⟩ = some (.int .i64 y)
  c2 : w.cell? ⟨b, 2, none⟩ = some (.int .i64 z)
  f0 : w.frozen? ⟨b, 0, none⟩ = false
  f1 : w.frozen? ⟨b, 1, none⟩ = false
  f2 : w.frozen? ⟨b, 2, none⟩ = false
  lt : b < w.heap.size
theorem Ints3.only {w w' : World} {b c : Nat} {x y z : Int} (h : Ints3 w b x y z) (k : Only c w w') (hn : b ≠ c) : Ints3 w' b x y z :=
  ⟨(k.cell b 0 h.lt hn).trans h.c0, (k.cell b 1 h.lt hn).trans h.c1, (k.cell b 2 h.lt hn).trans h.c2, (k.frozen b 0 h.lt hn).trans h.f0, (k.frozen b 1 h.lt hn).trans h.f1, (k.frozen b 2 h.lt hn).trans h.f2, Nat.lt_of_lt_of_le h.lt k.size⟩
theorem Ints3.below {w w' : World} {b B : Nat} {x y z : Int} (h : Ints3 w b x y z) (k : Below B w w') (hn : b < B) : Ints3 w' b x y z :=
  ⟨(k.cell (p := ⟨b, 0, none⟩) hn).trans h.c0, (k.cell (p := ⟨b, 1, none⟩) hn).trans h.c1, (k.cell (p := ⟨b, 2, none⟩) hn).trans h.c2, (k.frozen (p := ⟨b, 0, none⟩) hn).trans h.f0, (k.frozen (p := ⟨b, 1, none⟩) hn).trans h.f1, (k.frozen (p := ⟨b, 2, none⟩) hn).trans h.f2, Nat.lt_of_lt_of_le h.lt k.size⟩
theorem Ints3.alloc {w : World} {b : Nat} {x y z : Int} (h : Ints3 w b x y z) (o : Obj) : Ints3 (w.alloc o) b x y z := h.below ((Below.refl _ _).alloc (Nat.le_refl _) o) h.lt
theorem Ints3.drewN {w : World} {b : Nat} {x y z : Int} (h : Ints3 w b x y z) (n : Nat) : Ints3 (w.drewN n) b x y z := ⟨h.c0, h.c1, h.c2, h.f0, h.f1, h.f2, h.lt⟩
theorem Ints3.drew {w : World} {b : Nat} {x y z : Int} (h : Ints3 w b x y z) : Ints3 w.drew b x y z := ⟨h.c0, h.c1, h.c2, h.f0, h.f1, h.f2, h.lt⟩
theorem Ints3.other {w : World} {b : Nat} {x y z : Int} (h : Ints3 w b x y z) {p : Addr} (hp : p.block ≠ b) (u : Value) : Ints3 (w.setCell p u) b x y z := by
  have e : ∀ o, (w.setCell p u).cell? ⟨b, o, none⟩ = w.cell? ⟨b, o, none⟩ := fun o => World.cell?_setCell_other _ _ _ _ (fun e => hp (by rw [e]))
  have f : ∀ o, (w.setCell p u).frozen? ⟨b, o, none⟩ = w.frozen? ⟨b, o, none⟩ := fun o => by simp
  exact ⟨(e 0).trans h.c0, (e 1).trans h.c1, (e 2).trans h.c2, (f 0).trans h.f0, (f 1).trans h.f1, (f 2).trans h.f2, by simpa [World.setCell] using h.lt⟩
theorem Ints3.set0 {w : World} {b : Nat} {x y z : Int} (h : Ints3 w b x y z) (u : Int) : Ints3 (w.setCell ⟨b, 0, none⟩ (.int .i64 u)) b u y z := by
  have h' := h
  obtain ⟨c0, c1, c2, f0, f1, f2, l⟩ := h'
  exact ⟨World.cell?_setCell_same _ _ _ c0, by rw [World.cell?_setCell_other _ _ _ _ (by simp)]; exact c1, by rw [World.cell?_setCell_other _ _ _ _ (by simp)]; exact c2, by simpa using f0, by simpa using f1, by simpa using f2, by simpa [World.setCell] using l⟩
theorem Ints3.set1 {w : World} {b : Nat} {x y z : Int} (h : Ints3 w b x y z) (u : Int) : Ints3 (w.setCell ⟨b, 1, none⟩ (.int .i64 u)) b x u z := by
  obtain ⟨c0, c1, c2, f0, f1, f2, l⟩ := h
  exact ⟨by rw [World.cell?_setCell_other _ _ _ _ (by simp)]; exact c0, World.cell?_setCell_same _ _ _ c1, by rw [World.cell?_setCell_other _ _ _ _ (by simp)]; exact c2, by simpa using f0, by simpa using f1, by simpa using f2, by simpa [World.setCell] using l⟩
theorem Ints3.set2 {w : World} {b : Nat} {x y z : Int} (h : Ints3 w b x y z) (u : Int) : Ints3 (w.setCell ⟨b, 2, none⟩ (.int .i64 u)) b x y u := by
  obtain ⟨c0, c1, c2, f0, f1, f2, l⟩ := h
  exact ⟨by rw [World.cell?_setCell_other _ _ _ _ (by simp)]; exact c0, by rw [World.cell?_setCell_other _ _ _ _ (by simp)]; exact c1, World.cell?_setCell_same _ _ _ c2, by simpa using f0, by simpa using f1, by simpa using f2, by simpa [World.setCell] using l⟩
theorem Ints3.new (w : World) (x y z : Int) (t : TypeId) : Ints3 (w.alloc (.cells #[.int .i64 x, .int .i64 y, .int .i64 z] t)) w.heap.size x y z := by
  constructor <;> simp
end Go.Proofs.YtpflbhcgkndpcaaGreatDoor

/- Two ints at a block's head; pairs of ints at a slice's head; the greatest of stamps. -/
namespace Go.Proofs.YtpflbhcgkndpcaaGreatDoor
open Go.RowKit

structure Ints2 (w : World) (b : Nat) (x y : Int) : Prop where
  c0 : w.cell? ⟨b, 0, none⟩ = some (.int .i64 x)
  c1 : w.cell? ⟨b, 1, none⟩ = some (.int .i64 y)
  f0 : w.frozen? ⟨b, 0, none⟩ = false
  f1 : w.frozen? ⟨b, 1, none⟩ = false
  lt : b < w.heap.size
theorem Ints2.only {w w' : World} {b c : Nat} {x y : Int} (h : Ints2 w b x y) (k : Only c w w') (hn : b ≠ c) : Ints2 w' b x y :=
  ⟨(k.cell b 0 h.lt hn).trans h.c0, (k.cell b 1 h.lt hn).trans h.c1, (k.frozen b 0 h.lt hn).trans h.f0, (k.frozen b 1 h.lt hn).trans h.f1, Nat.lt_of_lt_of_le h.lt k.size⟩
theorem Ints2.below {w w' : World} {b B : Nat} {x y : Int} (h : Ints2 w b x y) (k : Below B w w') (hn : b < B) : Ints2 w' b x y :=
  ⟨(k.cell (p := ⟨b, 0, none⟩) hn).trans h.c0, (k.cell (p := ⟨b, 1, none⟩) hn).trans h.c1, (k.frozen (p := ⟨b, 0, none⟩) hn).trans h.f0, (k.frozen (p := ⟨b, 1, none⟩) hn).trans h.f1, Nat.lt_of_lt_of_le h.lt k.size⟩
theorem Ints2.alloc {w : World} {b : Nat} {x y : Int} (h : Ints2 w b x y) (o : Obj) : Ints2 (w.alloc o) b x y := h.below ((Below.refl _ _).alloc (Nat.le_refl _) o) h.lt
theorem Ints2.drewN {w : World} {b : Nat} {x y : Int} (h : Ints2 w b x y) (n : Nat) : Ints2 (w.drewN n) b x y := ⟨h.c0, h.c1, h.f0, h.f1, h.lt⟩
theorem Ints2.drew {w : World} {b : Nat} {x y : Int} (h : Ints2 w b x y) : Ints2 w.drew b x y := ⟨h.c0, h.c1, h.f0, h.f1, h.lt⟩
theorem Ints2.other {w : World} {b : Nat} {x y : Int} (h : Ints2 w b x y) {p : Addr} (hp : p.block ≠ b) (u : Value) : Ints2 (w.setCell p u) b x y := by
  have e : ∀ o, (w.setCell p u).cell? ⟨b, o, none⟩ = w.cell? ⟨b, o, none⟩ := fun o => World.cell?_setCell_other _ _ _ _ (fun e => hp (by rw [e]))
  have f : ∀ o, (w.setCell p u).frozen? ⟨b, o, none⟩ = w.frozen? ⟨b, o, none⟩ := fun o => by simp
  exact ⟨(e 0).trans h.c0, (e 1).trans h.c1, (f 0).trans h.f0, (f 1).trans h.f1, by simpa [World.setCell] using h.lt⟩
theorem Ints2.set0 {w : World} {b : Nat} {x y : Int} (h : Ints2 w b x y) (u : Int) : Ints2 (w.setCell ⟨b, 0, none⟩ (.int .i64 u)) b u y := by
  obtain ⟨c0, c1, f0, f1, l⟩ := h
  exact ⟨World.cell?_setCell_same _ _ _ c0, by rw [World.cell?_setCell_other _ _ _ _ (by simp)]; exact c1, by simpa using f0, by simpa using f1, by simpa [World.setCell] using l⟩
theorem Ints2.set1 {w : World} {b : Nat} {x y : Int} (h : Ints2 w b x y) (u : Int) : Ints2 (w.setCell ⟨b, 1, none⟩ (.int .i64 u)) b x u := by
  obtain ⟨c0, c1, f0, f1, l⟩ := h
  exact ⟨by rw [World.cell?_setCell_other _ _ _ _ (by simp)]; exact c0, World.cell?_setCell_same _ _ _ c1, by simpa using f0, by simpa using f1, by simpa [World.setCell] using l⟩
theorem Ints2.new (w : World) (x y : Int) (t : TypeId) : Ints2 (w.alloc (.cells #[.int .i64 x, .int .i64 y] t)) w.heap.size x y := by
  constructor <;> simp
theorem Ints2.new1 (w : World) (o : Obj) (x y : Int) (t : TypeId) : Ints2 ((w.alloc o).alloc (.cells #[.int .i64 x, .int .i64 y] t)) (w.heap.size + 1) x y := by
  have h := Ints2.new (w.alloc o) x y t
  rwa [World.size_alloc] at h
/-- n pairs of integers at a slice's head. -/
def PairsAt (w : World) (A : Option Addr) (n : Nat) (p q : Nat → Int) : Prop :=
  0 < n → ∃ B O, A = some ⟨B, O, none⟩ ∧ B < w.heap.size ∧ ∀ j, j < n → w.cell? ⟨B, O + j * 2, none⟩ = some (.int .i64 (p j)) ∧ w.cell? ⟨B, O + j * 2 + 1, none⟩ = some (.int .i64 (q j))
theorem PairsAt.below {w w' : World} {A : Option Addr} {n : Nat} {p q : Nat → Int} (h : PairsAt w A n p q) (k : Below w.heap.size w w') : PairsAt w' A n p q := by
  intro h0
  obtain ⟨B, O, rfl, hB, hc⟩ := h h0
  exact ⟨B, O, rfl, Nat.lt_of_lt_of_le hB k.size, fun j hj => ⟨(k.cell (p := ⟨B, O + j * 2, none⟩) hB).trans (hc j hj).1, (k.cell (p := ⟨B, O + j * 2 + 1, none⟩) hB).trans (hc j hj).2⟩⟩
end Go.Proofs.YtpflbhcgkndpcaaGreatDoor

/- An argument that is a slice of ints: its shape, its cells. -/
namespace Go.Proofs.YtpflbhcgkndpcaaGreatDoor
open Go.ChangeShapes Go.WideShapes Go.ChangeAt Go.RowKit Go.Joins

theorem cell_lt {w : World} {b o : Nat} {v : Value} (h : w.cell? ⟨b, o, none⟩ = some v) : b < w.heap.size := by
  rcases (show b < w.heap.size ∨ w.heap.size ≤ b from by omega) with hb | hb
  · exact hb
  · exfalso
    have e : w.heap[b]? = none := Array.getElem?_eq_none hb
    simp [World.cell?, e] at h
theorem ints_cells : Tryz.prog.cellsOf 3 = 1 := by kernel_rfl
/-- n integers at a slice's head. -/
def IntsAt (w : World) (A : Option Addr) (n : Nat) (z : Nat → Int) : Prop :=
  0 < n → ∃ B O, A = some ⟨B, O, none⟩ ∧ B < w.heap.size ∧ ∀ j, j < n → w.cell? ⟨B, O + j, none⟩ = some (.int .i64 (z j)) ∧ -9223372036854775808 ≤ z j ∧ z j ≤ 9223372036854775807
theorem wf_bd {x : Int} (h : (Lit.int .i64 x).wf = true) : -9223372036854775808 ≤ x ∧ x ≤ 9223372036854775807 := by
  simp [Lit.wf, IntKind.min, IntKind.max, IntKind.signed, IntKind.bits] at h
  exact ⟨by omega, by omega⟩
set_option maxRecDepth 100000 in
theorem open_int_slice {H : Type} {enc : TypeId × Value → H} {w : World} {r : Reach} {b0 base : Nat} {sp : Nat → Bool} {v : Value} {d : DataW H} {p : List MemPlace}
    (hv : Value.okWide Tryz.prog w r b0 183 v) (h : DataW.Trod enc Tryz.prog w base sp true 183 v d p) :
    ∃ (A : Option Addr) (n c : Nat) (z : Nat → Int), v = .slice A n c ∧ n ≤ maxLen ∧ IntsAt w A n z := by
  obtain ⟨a0, len, cap, rfl⟩ := okWide_slice Tryz.underlying183 hv
  obtain ⟨fuel, hf⟩ := h
  rcases open_ints Tryz.underlying183 Tryz.underlying3 ints_cells hf with ⟨hcs, hx⟩ | ⟨a, len', cap', zs, hcs, _, hl, hm, hz, hx, hcell, hwz⟩
  · simp [Value.cells] at hcs
    obtain ⟨rfl, rfl, rfl⟩ := hcs
    exact ⟨none, 0, 0, fun _ => 0, rfl, by unfold maxLen; omega, fun h => absurd h (by omega)⟩
  · simp [Value.cells] at hcs
    obtain ⟨rfl, rfl, rfl⟩ := hcs
    refine ⟨some a, len, cap, fun j => zs.getD j 0, rfl, by omega, fun h0 => ?_⟩
    have hlz : len ≤ zs.length := by rw [hz]; split <;> omega
    obtain ⟨B, O, spot⟩ := a
    have hspot : spot = none := by simpa [Addr.add] using World.cell?_spot (hcell 0 (by omega))
    subst hspot
    have hc : ∀ j, j < len → w.cell? ⟨B, O + j, none⟩ = some (.int .i64 (zs.getD j 0)) := fun j hj => by rw [← add_plain]; exact hcell j (by omega)
    refine ⟨B, O, rfl, cell_lt (hc 0 h0), fun j hj => ⟨hc j hj, ?_⟩⟩
    have hj' : j < zs.length := by omega
    refine wf_bd (hwz _ ?_)
    show zs.getD j 0 ∈ zs
    rw [List.getD_eq_getElem?_getD, List.getElem?_eq_getElem hj']
    exact List.getElem_mem hj'
end Go.Proofs.YtpflbhcgkndpcaaGreatDoor

/- An argument that is a slice of structs made of ints alone, whatever their nesting: its cells. -/
namespace Go.Proofs.YtpflbhcgkndpcaaGreatDoor
open Go.ChangeShapes Go.WideShapes Go.ChangeAt Go.RowKit Go.Joins

/-- A type of ints alone, d levels deep. -/
def flatB (P : Program) : Nat → TypeId → Bool
  | 0, _ => false
  | d + 1, t => match P.underlying t with
    | some (.int .i64) => P.cellsOf t == 1
    | some (.struct fs) => (fs.toList.all fun f => flatB P d f.type) && ((List.range (P.cellsOf t)).all fun j => fs.toList.any fun f => decide (f.offset ≤ j) && decide (j < f.offset + P.cellsOf f.type))
    | _ => false
def IntCell (v : Option Value) : Prop := ∃ z : Int, v = some (.int .i64 z) ∧ -9223372036854775808 ≤ z ∧ z ≤ 9223372036854775807
theorem flat_ints {H : Type} {enc : TypeId × Value → H} {P : Program} {w : World} {base : Nat} {sp : Nat → Bool} {held : Bool} : ∀ (d : Nat) (t : TypeId) (fuel : Nat) (cs : List Value) (x : DataW H × List MemPlace),
    flatB P d t = true → DataW.trod enc P w base sp held fuel t cs = some x → ∀ j, j < P.cellsOf t → IntCell cs[j]?
  | 0, _, _, _, _, hb, _ => by simp [flatB] at hb
  | d + 1, t, fuel, cs, x, hb, h => by
    intro j hj
    unfold flatB at hb
    split at hb
    · rename_i hu
      obtain ⟨n, rfl, _, hw⟩ := DataW.trod_int hu h
      have h1 : P.cellsOf t = 1 := by simpa using hb
      obtain rfl : j = 0 := by omega
      exact ⟨n, rfl, wf_bd hw⟩
    · rename_i fs hu
      obtain ⟨xs, n, _, _, hl, hlx, hf⟩ := DataW.trod_struct hu h
      simp only [Bool.and_eq_true] at hb
      have hcov := List.all_eq_true.1 hb.2 j (List.mem_range.2 hj)
      obtain ⟨f, hfm, hfo⟩ := List.any_eq_true.1 hcov
      simp only [Bool.and_eq_true, decide_eq_true_eq] at hfo
      obtain ⟨i, hi⟩ := List.mem_iff_getElem?.1 hfm
      have hfi : fs[i]? = some f := by simpa using hi
      have hlt : i < fs.size := (Array.getElem?_eq_some_iff.1 hfi).1
      have hx : xs[i]? = some (xs[i]'(by omega)) := List.getElem?_eq_getElem (by omega)
      have hrec := flat_ints d f.type n _ _ (List.all_eq_true.1 hb.1 f hfm) ((hf i f hfi).trans hx) (j - f.offset) (by omega)
      rw [List.getElem?_take_of_lt (by omega), List.getElem?_drop, show f.offset + (j - f.offset) = j from by omega] at hrec
      exact hrec
    · cases hb
/-- m integers for each of n elements at a slice's head. -/
def FlatAt (w : World) (A : Option Addr) (m n : Nat) (z : Nat → Int) : Prop :=
  0 < n → ∃ B O, A = some ⟨B, O, none⟩ ∧ B < w.heap.size ∧ ∀ j, j < n * m → w.cell? ⟨B, O + j, none⟩ = some (.int .i64 (z j)) ∧ -9223372036854775808 ≤ z j ∧ z j ≤ 9223372036854775807
def intIn (v : Option Value) : Int := match v with
  | some (.int .i64 z) => z
  | _ => 0
set_option maxRecDepth 100000 in
theorem open_flat_slice {H : Type} {enc : TypeId × Value → H} {w : World} {r : Reach} {b0 base : Nat} {sp : Nat → Bool} {t e : TypeId} {m : Nat} {v : Value} {d : DataW H} {p : List MemPlace}
    (ht : Tryz.prog.underlying t = some (.slice e)) (hb : flatB Tryz.prog 4 e = true) (hm : Tryz.prog.cellsOf e = m) (hm0 : 0 < m) (hv : Value.okWide Tryz.prog w r b0 t v) (h : DataW.Trod enc Tryz.prog w base sp true t v d p) :
    ∃ (A : Option Addr) (n c : Nat) (z : Nat → Int), v = .slice A n c ∧ n ≤ maxLen ∧ FlatAt w A m n z := by
  obtain ⟨a0, len, cap, rfl⟩ := okWide_slice ht hv
  obtain ⟨fuel, hf⟩ := h
  rcases Go.Deep.open_slice ht hf with ⟨hcs, _⟩ | ⟨a, len', cap', mm, k, D, Pl, hcs, _, hl, hmx, hmm, _, hi⟩
  · simp [Value.cells] at hcs
    obtain ⟨rfl, rfl, rfl⟩ := hcs
    exact ⟨none, 0, 0, fun _ => 0, rfl, by unfold maxLen; omega, fun h => absurd h (by omega)⟩
  · simp [Value.cells] at hcs
    obtain ⟨rfl, rfl, rfl⟩ := hcs
    have hlm : len ≤ mm := by rw [hmm]; split <;> omega
    rw [hm] at hi
    have key : ∀ i j, i < len → j < m → IntCell (w.cell? ((a.add (i * m)).add j)) := by
      intro i j hil hjm
      obtain ⟨cs', hc, ht'⟩ := hi i (by omega)
      obtain ⟨_, hcl, hat⟩ := World.cells?_some hc
      have := flat_ints 4 e _ _ _ hb ht' j (by omega)
      rwa [← hat j hjm] at this
    obtain ⟨B, O, spot⟩ := a
    refine ⟨some ⟨B, O, spot⟩, len, cap, fun j => intIn (w.cell? ⟨B, O + j, none⟩), rfl, by omega, fun h0 => ?_⟩
    have hspot : spot = none := by
      obtain ⟨z, hz, _⟩ := key 0 0 h0 hm0
      simpa [Addr.add] using World.cell?_spot hz
    subst hspot
    have hc : ∀ j, j < len * m → IntCell (w.cell? ⟨B, O + j, none⟩) := by
      intro j hj
      have h1 : j / m < len := (Nat.div_lt_iff_lt_mul hm0).2 hj
      have h2 := key (j / m) (j % m) h1 (Nat.mod_lt _ hm0)
      have e : (Addr.mk B O none).add (j / m * m) = ⟨B, O + j / m * m, none⟩ := add_plain _ _ _
      have e2 : (Addr.mk B (O + j / m * m) none).add (j % m) = ⟨B, O + j / m * m + j % m, none⟩ := add_plain _ _ _
      rw [e, e2, Nat.add_assoc, Nat.mul_comm (j / m) m, Nat.div_add_mod] at h2
      exact h2
    refine ⟨B, O, rfl, ?_, fun j hj => ?_⟩
    · obtain ⟨z, hz, _⟩ := hc 0 (Nat.mul_pos h0 hm0)
      exact cell_lt hz
    · obtain ⟨z, hz, hb1, hb2⟩ := hc j hj
      have e : intIn (w.cell? ⟨B, O + j, none⟩) = z := by rw [hz]; rfl
      show w.cell? ⟨B, O + j, none⟩ = some (.int .i64 (intIn (w.cell? ⟨B, O + j, none⟩))) ∧ -9223372036854775808 ≤ intIn (w.cell? ⟨B, O + j, none⟩) ∧ intIn (w.cell? ⟨B, O + j, none⟩) ≤ 9223372036854775807
      rw [e]
      exact ⟨hz, hb1, hb2⟩
end Go.Proofs.YtpflbhcgkndpcaaGreatDoor

/- Integers as cells; a row of pairs that the call owns. -/
namespace Go.Proofs.YtpflbhcgkndpcaaGreatDoor
open Go.ChangeShapes Go.WideShapes Go.ChangeAt Go.RowKit Go.Joins

def cellsOf (z : Nat → Int) (k : Nat) : List Value := (List.range k).map fun j => .int .i64 (z j)
theorem cellsOf_len (z : Nat → Int) (k : Nat) : (cellsOf z k).length = k := by simp [cellsOf]
theorem cellsOf_at (z : Nat → Int) (k j : Nat) (h : j < k) : (cellsOf z k)[j]? = some (.int .i64 (z j)) := by simp [cellsOf, h]
theorem cellsOf_some {z : Nat → Int} {k j : Nat} {u : Value} (h : (cellsOf z k)[j]? = some u) : j < k ∧ u = .int .i64 (z j) := by
  rcases (show j < k ∨ k ≤ j from by omega) with hj | hj
  · rw [cellsOf_at z k j hj] at h
    exact ⟨hj, by injection h with h; exact h.symm⟩
  · rw [List.getElem?_eq_none (by rw [cellsOf_len]; exact hj)] at h
    cases h
theorem cellsOf_one (z : Nat → Int) (k : Nat) : ∀ u ∈ cellsOf z k, u.oneCell' = true := by
  intro u hu
  simp [cellsOf] at hu
  obtain ⟨j, _, rfl⟩ := hu
  rfl
theorem at_add (B O j : Nat) : (Addr.mk B O none).add j = ⟨B, O + j, none⟩ := add_plain _ _ _
/-- A source's cells, address by address. -/
theorem FlatAt.cells {w : World} {ad : Addr} {m n : Nat} {z : Nat → Int} (h : FlatAt w (some ad) m n z) : ∀ j u, (cellsOf z (n * m))[j]? = some u → w.cell? (ad.add j) = some u := by
  intro j u hu
  obtain ⟨hj, rfl⟩ := cellsOf_some hu
  have hn : 0 < n := by
    rcases Nat.eq_zero_or_pos n with h0 | h0
    · subst h0; simp at hj
    · exact h0
  obtain ⟨B', O', he, _, hc⟩ := h hn
  injection he with he
  subst he
  rw [at_add]
  exact (hc j hj).1
theorem FlatAt.below {w w' : World} {A : Option Addr} {m n : Nat} {z : Nat → Int} (h : FlatAt w A m n z) (k : Below w.heap.size w w') : FlatAt w' A m n z := by
  intro h0
  obtain ⟨B, O, rfl, hB, hc⟩ := h h0
  exact ⟨B, O, rfl, Nat.lt_of_lt_of_le hB k.size, fun j hj => ⟨(k.cell (p := ⟨B, O + j, none⟩) hB).trans (hc j hj).1, (hc j hj).2⟩⟩
/-- A slice without an address is nil. -/
theorem nil_shape {H : Type} {enc : TypeId × Value → H} {P : Program} {w : World} {base : Nat} {sp : Nat → Bool} {t e : TypeId} {n c : Nat} {d : DataW H} {p : List MemPlace}
    (ht : P.underlying t = some (.slice e)) (h : DataW.Trod enc P w base sp true t (.slice none n c) d p) : n = 0 ∧ c = 0 := by
  obtain ⟨fuel, hf⟩ := h
  rcases Go.Deep.open_slice ht hf with ⟨hcs, _⟩ | ⟨a, len', cap', mm, k, D, Pl, hcs, _⟩
  · simpa [Value.cells] using hcs
  · simp [Value.cells] at hcs
theorem FlatAt.pairs {w : World} {A : Option Addr} {n : Nat} {z : Nat → Int} (h : FlatAt w A 2 n z) : PairsAt w A n (fun j => z (j * 2)) (fun j => z (j * 2 + 1)) := by
  intro hn
  obtain ⟨B, O, rfl, hB, hc⟩ := h hn
  exact ⟨B, O, rfl, hB, fun j hj => ⟨(hc (j * 2) (by omega)).1, by rw [Nat.add_assoc]; exact (hc (j * 2 + 1) (by omega)).1⟩⟩
/-- What the call owns reads as pairs. -/
theorem own_pairs {w : World} {base : Nat} {e : TypeId} {v : Value} {n : Nat} {z : Nat → Int} (h : w.ownsRow base e 2 v n (cellsOf z (n * 2))) :
    ∃ (A : Option Addr) (c : Nat), v = .slice A n c ∧ PairsAt w A n (fun j => z (j * 2)) (fun j => z (j * 2 + 1)) := by
  have hc0 := fun g hg => h.cells (g := g) hg
  rcases h.2 with ⟨rfl, rfl⟩ | ⟨g, cap, cur, rfl, hb, hh, _⟩
  · exact ⟨none, 0, rfl, fun hn => absurd hn (by omega)⟩
  · refine ⟨_, _, rfl, fun hn => ⟨g, 0, rfl, ?_, fun j hj => ?_⟩⟩
    · exact (h.lt g rfl).2
    · have hc := hc0 g rfl
      refine ⟨?_, ?_⟩
      · have := hc (j * 2) _ (cellsOf_at z (n * 2) (j * 2) (by omega))
        rwa [at_add] at this
      · have := hc (j * 2 + 1) _ (cellsOf_at z (n * 2) (j * 2 + 1) (by omega))
        rwa [at_add, ← Nat.add_assoc] at this
end Go.Proofs.YtpflbhcgkndpcaaGreatDoor

