/- An argument that is a slice of structs made of ints alone, whatever their nesting: its cells. -/
import Derived.Test.YtdjhpajmbddffaaArgInts
import Derived.Deep.Slices
set_option linter.unusedSimpArgs false
set_option linter.unusedVariables false
namespace Go.Proofs.Ytdjhpajmbddffaa
open Go.ChangeShapes Go.WideShapes Go.ChangeAt Go.RowKit Go.Joins

/-- A type of ints alone, d levels deep. -/
def flatB (P : Program) : Nat → TypeId → Bool
  | 0, _ => false
  | d + 1, t => match P.underlying t with
    | some (.int .i64) => P.cellsOf t == 1
    | some (.struct fs) => (fs.toList.all fun f => flatB P d f.type) && ((List.range (P.cellsOf t)).all fun j => fs.toList.any fun f => decide (f.offset ≤ j) && decide (j < f.offset + P.cellsOf f.type))
    | _ => false
def IntCell (v : Option Value) : Prop := ∃ z : Int, v = some (.int .i64 z) ∧ -9223372036854775808 ≤ z ∧ z ≤ 9223372036854775807
theorem flat_ints {H : Type} {enc : TypeId × Value → H} {P : Program} {w : World} {base : Nat} {sp : Nat → Bool} {held : Bool} : ∀ (d : Nat) (t : TypeId) (fuel : Nat) (cs : List Value) (x : DataW H × List MemPlace),
    flatB P d t = true → DataW.trod enc P w base sp held fuel t cs = some x → ∀ j, j < P.cellsOf t → IntCell cs[j]?
  | 0, _, _, _, _, hb, _ => by simp [flatB] at hb
  | d + 1, t, fuel, cs, x, hb, h => by
    intro j hj
    unfold flatB at hb
    split at hb
    · rename_i hu
      obtain ⟨n, rfl, _, hw⟩ := DataW.trod_int hu h
      have h1 : P.cellsOf t = 1 := by simpa using hb
      obtain rfl : j = 0 := by omega
      exact ⟨n, rfl, wf_bd hw⟩
    · rename_i fs hu
      obtain ⟨xs, n, _, _, hl, hlx, hf⟩ := DataW.trod_struct hu h
      simp only [Bool.and_eq_true] at hb
      have hcov := List.all_eq_true.1 hb.2 j (List.mem_range.2 hj)
      obtain ⟨f, hfm, hfo⟩ := List.any_eq_true.1 hcov
      simp only [Bool.and_eq_true, decide_eq_true_eq] at hfo
      obtain ⟨i, hi⟩ := List.mem_iff_getElem?.1 hfm
      have hfi : fs[i]? = some f := by simpa using hi
      have hlt : i < fs.size := (Array.getElem?_eq_some_iff.1 hfi).1
      have hx : xs[i]? = some (xs[i]'(by omega)) := List.getElem?_eq_getElem (by omega)
      have hrec := flat_ints d f.type n _ _ (List.all_eq_true.1 hb.1 f hfm) ((hf i f hfi).trans hx) (j - f.offset) (by omega)
      rw [List.getElem?_take_of_lt (by omega), List.getElem?_drop, show f.offset + (j - f.offset) = j from by omega] at hrec
      exact hrec
    · cases hb
/-- m integers for each of n elements at a slice's head. -/
def FlatAt (w : World) (A : Option Addr) (m n : Nat) (z : Nat → Int) : Prop :=
  0 < n → ∃ B O, A = some ⟨B, O, none⟩ ∧ B < w.heap.size ∧ ∀ j, j < n * m → w.cell? ⟨B, O + j, none⟩ = some (.int .i64 (z j)) ∧ -9223372036854775808 ≤ z j ∧ z j ≤ 9223372036854775807
def intIn (v : Option Value) : Int := match v with
  | some (.int .i64 z) => z
  | _ => 0
set_option maxRecDepth 100000 in
theorem open_flat_slice {H : Type} {enc : TypeId × Value → H} {w : World} {r : Reach} {b0 base : Nat} {sp : Nat → Bool} {t e : TypeId} {m : Nat} {v : Value} {d : DataW H} {p : List MemPlace}
    (ht : Try.prog.underlying t = some (.slice e)) (hb : flatB Try.prog 4 e = true) (hm : Try.prog.cellsOf e = m) (hm0 : 0 < m) (hv : Value.okWide Try.prog w r b0 t v) (h : DataW.Trod enc Try.prog w base sp true t v d p) :
    ∃ (A : Option Addr) (n c : Nat) (z : Nat → Int), v = .slice A n c ∧ n ≤ maxLen ∧ FlatAt w A m n z := by
  obtain ⟨a0, len, cap, rfl⟩ := okWide_slice ht hv
  obtain ⟨fuel, hf⟩ := h
  rcases Go.Deep.open_slice ht hf with ⟨hcs, _⟩ | ⟨a, len', cap', mm, k, D, Pl, hcs, _, hl, hmx, hmm, _, hi⟩
  · simp [Value.cells] at hcs
    obtain ⟨rfl, rfl, rfl⟩ := hcs
    exact ⟨none, 0, 0, fun _ => 0, rfl, by unfold maxLen; omega, fun h => absurd h (by omega)⟩
  · simp [Value.cells] at hcs
    obtain ⟨rfl, rfl, rfl⟩ := hcs
    have hlm : len ≤ mm := by rw [hmm]; split <;> omega
    rw [hm] at hi
    have key : ∀ i j, i < len → j < m → IntCell (w.cell? ((a.add (i * m)).add j)) := by
      intro i j hil hjm
      obtain ⟨cs', hc, ht'⟩ := hi i (by omega)
      obtain ⟨_, hcl, hat⟩ := World.cells?_some hc
      have := flat_ints 4 e _ _ _ hb ht' j (by omega)
      rwa [← hat j hjm] at this
    obtain ⟨B, O, spot⟩ := a
    refine ⟨some ⟨B, O, spot⟩, len, cap, fun j => intIn (w.cell? ⟨B, O + j, none⟩), rfl, by omega, fun h0 => ?_⟩
    have hspot : spot = none := by
      obtain ⟨z, hz, _⟩ := key 0 0 h0 hm0
      simpa [Addr.add] using World.cell?_spot hz
    subst hspot
    have hc : ∀ j, j < len * m → IntCell (w.cell? ⟨B, O + j, none⟩) := by
      intro j hj
      have h1 : j / m < len := (Nat.div_lt_iff_lt_mul hm0).2 hj
      have h2 := key (j / m) (j % m) h1 (Nat.mod_lt _ hm0)
      have e : (Addr.mk B O none).add (j / m * m) = ⟨B, O + j / m * m, none⟩ := add_plain _ _ _
      have e2 : (Addr.mk B (O + j / m * m) none).add (j % m) = ⟨B, O + j / m * m + j % m, none⟩ := add_plain _ _ _
      rw [e, e2, Nat.add_assoc, Nat.mul_comm (j / m) m, Nat.div_add_mod] at h2
      exact h2
    refine ⟨B, O, rfl, ?_, fun j hj => ?_⟩
    · obtain ⟨z, hz, _⟩ := hc 0 (Nat.mul_pos h0 hm0)
      exact cell_lt hz
    · obtain ⟨z, hz, hb1, hb2⟩ := hc j hj
      have e : intIn (w.cell? ⟨B, O + j, none⟩) = z := by rw [hz]; rfl
      show w.cell? ⟨B, O + j, none⟩ = some (.int .i64 (intIn (w.cell? ⟨B, O + j, none⟩))) ∧ -9223372036854775808 ≤ intIn (w.cell? ⟨B, O + j, none⟩) ∧ intIn (w.cell? ⟨B, O + j, none⟩) ≤ 9223372036854775807
      rw [e]
      exact ⟨hz, hb1, hb2⟩
end Go.Proofs.Ytdjhpajmbddffaa
