/- An argument that is a slice of ints: its shape, its cells. -/
import Derived.Test.YtdjhpajmbddffaaLaw
set_option linter.unusedSimpArgs false
set_option linter.unusedVariables false
namespace Go.Proofs.Ytdjhpajmbddffaa
open Go.ChangeShapes Go.WideShapes Go.ChangeAt Go.RowKit Go.Joins

theorem cell_lt {w : World} {b o : Nat} {v : Value} (h : w.cell? ⟨b, o, none⟩ = some v) : b < w.heap.size := by
  rcases (show b < w.heap.size ∨ w.heap.size ≤ b from by omega) with hb | hb
  · exact hb
  · exfalso
    have e : w.heap[b]? = none := Array.getElem?_eq_none hb
    simp [World.cell?, e] at h
theorem ints_cells : Try.prog.cellsOf 3 = 1 := by kernel_rfl
/-- n integers at a slice's head. -/
def IntsAt (w : World) (A : Option Addr) (n : Nat) (z : Nat → Int) : Prop :=
  0 < n → ∃ B O, A = some ⟨B, O, none⟩ ∧ B < w.heap.size ∧ ∀ j, j < n → w.cell? ⟨B, O + j, none⟩ = some (.int .i64 (z j)) ∧ -9223372036854775808 ≤ z j ∧ z j ≤ 9223372036854775807
theorem wf_bd {x : Int} (h : (Lit.int .i64 x).wf = true) : -9223372036854775808 ≤ x ∧ x ≤ 9223372036854775807 := by
  simp [Lit.wf, IntKind.min, IntKind.max, IntKind.signed, IntKind.bits] at h
  exact ⟨by omega, by omega⟩
set_option maxRecDepth 100000 in
theorem open_int_slice {H : Type} {enc : TypeId × Value → H} {w : World} {r : Reach} {b0 base : Nat} {sp : Nat → Bool} {v : Value} {d : DataW H} {p : List MemPlace}
    (hv : Value.okWide Try.prog w r b0 106 v) (h : DataW.Trod enc Try.prog w base sp true 106 v d p) :
    ∃ (A : Option Addr) (n c : Nat) (z : Nat → Int), v = .slice A n c ∧ n ≤ maxLen ∧ IntsAt w A n z := by
  obtain ⟨a0, len, cap, rfl⟩ := okWide_slice Try.underlying106 hv
  obtain ⟨fuel, hf⟩ := h
  rcases open_ints Try.underlying106 Try.underlying3 ints_cells hf with ⟨hcs, hx⟩ | ⟨a, len', cap', zs, hcs, _, hl, hm, hz, hx, hcell, hwz⟩
  · simp [Value.cells] at hcs
    obtain ⟨rfl, rfl, rfl⟩ := hcs
    exact ⟨none, 0, 0, fun _ => 0, rfl, by unfold maxLen; omega, fun h => absurd h (by omega)⟩
  · simp [Value.cells] at hcs
    obtain ⟨rfl, rfl, rfl⟩ := hcs
    refine ⟨some a, len, cap, fun j => zs.getD j 0, rfl, by omega, fun h0 => ?_⟩
    have hlz : len ≤ zs.length := by rw [hz]; split <;> omega
    obtain ⟨B, O, spot⟩ := a
    have hspot : spot = none := by simpa [Addr.add] using World.cell?_spot (hcell 0 (by omega))
    subst hspot
    have hc : ∀ j, j < len → w.cell? ⟨B, O + j, none⟩ = some (.int .i64 (zs.getD j 0)) := fun j hj => by rw [← add_plain]; exact hcell j (by omega)
    refine ⟨B, O, rfl, cell_lt (hc 0 h0), fun j hj => ⟨hc j hj, ?_⟩⟩
    have hj' : j < zs.length := by omega
    refine wf_bd (hwz _ ?_)
    show zs.getD j 0 ∈ zs
    rw [List.getD_eq_getElem?_getD, List.getElem?_eq_getElem hj']
    exact List.getElem_mem hj'
end Go.Proofs.Ytdjhpajmbddffaa
