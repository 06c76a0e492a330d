/- An argument that is a row of bytes. -/
import Derived.Test.YtdjhpajmbddffaaOctMem
import Derived.Test.YtdjhpajmbddffaaLaw
import Derived.Deep.Fields
import Derived.BigQuiet
set_option linter.unusedSimpArgs false
set_option linter.unusedVariables false
namespace Go.Proofs.Ytdjhpajmbddffaa
open Go.ChangeShapes Go.WideShapes Go.ChangeAt Go.RowKit Go.Joins Go.Deep

theorem weights_field {H : Type} {P : Program} {t : TypeId} {xs : List (DataW H)} {fs : Array Field} (hu : P.underlying t = some (.struct fs)) {i : Nat} {f : Field} (hf : fs[i]? = some f) {d : DataW H} (hd : xs[i]? = some d) : ∀ n ∈ d.weights P f.type, n ∈ (DataW.agg xs).weights P t := by
  intro n hn
  simp only [DataW.weights, hu]
  exact DataW.weights_mem_each (j := i) (t := f.type) (by simp; exact ⟨f, by simpa using hf, rfl⟩) hd n hn
theorem u8_cells' : Try.prog.cellsOf 5 = 1 := by kernel_rfl
theorem wf_u8' {x : Int} (h : (Lit.int .u8 x).wf = true) : 0 ≤ x ∧ x ≤ 255 := by
  simp [Lit.wf, IntKind.min, IntKind.max, IntKind.signed, IntKind.bits] at h
  omega
theorem cell_lt' {w : World} {B o : Nat} {v : Value} (h : w.cell? ⟨B, o, none⟩ = some v) : B < w.heap.size := by
  rcases Nat.lt_or_ge B w.heap.size with q | q
  · exact q
  · simp [World.cell?, Array.getElem?_eq_none q] at h
/-- A slice of bytes, as it is trod. -/
theorem open_bytes {H : Type} {enc : TypeId × Value → H} {w : World} {base : Nat} {sp : Nat → Bool} {fuel : Nat} {cs : List Value} {x : DataW H × List MemPlace} (hf : DataW.trod enc Try.prog w base sp true fuel 33 cs = some x) :
    ∃ (A : Option Addr) (l : List Int) (c : Nat), cs = [.slice A l.length c] ∧ l.length ≤ c ∧ c ≤ maxLen ∧ ByL w A l ∧ isBy l ∧ (A = none → l.length = 0) ∧ (∀ M, (∀ n ∈ x.1.weights Try.prog 33, n ≤ M) → l.length ≤ M) := by
  rcases open_ints Try.underlying33 Try.underlying5 u8_cells' hf with ⟨hcs, hx⟩ | ⟨a, len, cap, zs, hcs, _, hl, hm, hz, hx, hcell, hwz⟩
  · exact ⟨none, [], 0, hcs, by simp, by unfold maxLen; omega, ByL.nil _ _, isBy_nil, fun _ => rfl, fun M _ => by simp⟩
  · have hlz : len ≤ zs.length := by rw [hz]; split <;> omega
    have hle : (zs.take len).length = len := by rw [List.length_take]; omega
    refine ⟨some a, zs.take len, cap, by rw [hle]; exact hcs, by omega, by omega, fun h0 => ?_, fun b hb => ?_, (fun e => by cases e), fun M hM => ?_⟩
    · rw [hle] at h0
      obtain ⟨B, O, spot⟩ := a
      have hspot : spot = none := by simpa [Addr.add] using World.cell?_spot (hcell 0 (by omega))
      subst hspot
      have hc : ∀ j, j < len → w.cell? ⟨B, O + j, none⟩ = some (.int .u8 (zs.getD j 0)) := fun j hj => by rw [← add_plain]; exact hcell j (by omega)
      refine ⟨B, O, rfl, cell_lt' (hc 0 h0), fun j u hu => ?_⟩
      obtain ⟨q, rfl⟩ := bC_some hu
      rw [hle] at q
      rw [hc j q, List.getD_eq_getElem?_getD, List.getElem?_eq_getElem (by omega), List.getElem_take]
      rfl
    · exact wf_u8' (hwz b (List.mem_of_mem_take hb))
    · rw [hle]
      have := hM ((len + (zs.length - len)) * Try.prog.bytesOf 5) ?_
      · have hb1 : Try.prog.bytesOf 5 = 1 := by kernel_rfl
        rw [hb1] at this
        omega
      · rw [hx]
        simp [DataW.weights, Try.underlying33, lits]
        rw [show min len zs.length = len from by omega]
        exact Or.inl rfl
set_option maxRecDepth 100000 in
theorem open_by {H : Type} {enc : TypeId × Value → H} {w : World} {r : Reach} {b0 base : Nat} {sp : Nat → Bool} {v : Value} {d : DataW H} {p : List MemPlace} (hv : Value.okWide Try.prog w r b0 33 v) (h : DataW.Trod enc Try.prog w base sp true 33 v d p) :
    ∃ (A : Option Addr) (l : List Int) (c : Nat), v = .slice A l.length c ∧ l.length ≤ c ∧ c ≤ maxLen ∧ ByL w A l ∧ isBy l ∧ (A = none → l.length = 0) := by
  obtain ⟨a0, len, cap, rfl⟩ := okWide_slice Try.underlying33 hv
  obtain ⟨fuel, hf⟩ := h
  obtain ⟨A, l, c, hcs, h1, h2, h3, h4, h5, _⟩ := open_bytes hf
  simp [Value.cells] at hcs
  obtain ⟨rfl, rfl, rfl⟩ := hcs
  exact ⟨_, l, _, rfl, h1, h2, h3, h4, h5⟩
end Go.Proofs.Ytdjhpajmbddffaa
