/- An argument that is a table; one that is a moment. -/
import Derived.Test.YtepdnkpmkhjlgaaGreatArgFlat
set_option linter.unusedSimpArgs false
set_option linter.unusedVariables false
namespace Go.Proofs.YtepdnkpmkhjlgaaGreat
open Go.ChangeShapes Go.WideShapes Go.ChangeAt Go.RowKit Go.Joins

set_option maxRecDepth 100000 in
theorem open_flat_trod {H : Type} {enc : TypeId × Value → H} {w : World} {base : Nat} {sp : Nat → Bool} {t e : TypeId} {m fuel : Nat} {v : Value} {y : DataW H × List MemPlace}
    (ht : Tryz.prog.underlying t = some (.slice e)) (hb : flatB Tryz.prog 4 e = true) (hm : Tryz.prog.cellsOf e = m) (hm0 : 0 < m) (hf : DataW.trod enc Tryz.prog w base sp true fuel t [v] = some y) :
    ∃ (A : Option Addr) (n c : Nat) (z : Nat → Int), v = .slice A n c ∧ n ≤ maxLen ∧ FlatAt w A m n z := by
  rcases Go.Deep.open_slice ht hf with ⟨hcs, _⟩ | ⟨a, len, cap, mm, k, D, Pl, hcs, _, hl, hmx, hmm, _, hi⟩
  · obtain rfl : v = .slice none 0 0 := by simpa using hcs
    exact ⟨none, 0, 0, fun _ => 0, rfl, by unfold maxLen; omega, fun h => absurd h (by omega)⟩
  · obtain rfl : v = .slice (some a) len cap := by simpa using hcs
    have hlm : len ≤ mm := by rw [hmm]; split <;> omega
    rw [hm] at hi
    have key : ∀ i j, i < len → j < m → IntCell (w.cell? ((a.add (i * m)).add j)) := by
      intro i j hil hjm
      obtain ⟨cs', hc, ht'⟩ := hi i (by omega)
      obtain ⟨_, hcl, hat⟩ := World.cells?_some hc
      have := flat_ints 4 e _ _ _ hb ht' j (by omega)
      rwa [← hat j hjm] at this
    obtain ⟨B, O, spot⟩ := a
    refine ⟨some ⟨B, O, spot⟩, len, cap, fun j => intIn (w.cell? ⟨B, O + j, none⟩), rfl, by omega, fun h0 => ?_⟩
    have hspot : spot = none := by
      obtain ⟨z, hz, _⟩ := key 0 0 h0 hm0
      simpa [Addr.add] using World.cell?_spot hz
    subst hspot
    have hc : ∀ j, j < len * m → IntCell (w.cell? ⟨B, O + j, none⟩) := by
      intro j hj
      have h1 : j / m < len := (Nat.div_lt_iff_lt_mul hm0).2 hj
      have h2 := key (j / m) (j % m) h1 (Nat.mod_lt _ hm0)
      have e : (Addr.mk B O none).add (j / m * m) = ⟨B, O + j / m * m, none⟩ := add_plain _ _ _
      have e2 : (Addr.mk B (O + j / m * m) none).add (j % m) = ⟨B, O + j / m * m + j % m, none⟩ := add_plain _ _ _
      rw [e, e2, Nat.add_assoc, Nat.mul_comm (j / m) m, Nat.div_add_mod] at h2
      exact h2
    refine ⟨B, O, rfl, ?_, fun j hj => ?_⟩
    · obtain ⟨z, hz, _⟩ := hc 0 (Nat.mul_pos h0 hm0)
      exact cell_lt hz
    · obtain ⟨z, hz, hb1, hb2⟩ := hc j hj
      have e : intIn (w.cell? ⟨B, O + j, none⟩) = z := by rw [hz]; rfl
      show w.cell? ⟨B, O + j, none⟩ = some (.int .i64 (intIn (w.cell? ⟨B, O + j, none⟩))) ∧ -9223372036854775808 ≤ intIn (w.cell? ⟨B, O + j, none⟩) ∧ intIn (w.cell? ⟨B, O + j, none⟩) ≤ 9223372036854775807
      rw [e]
      exact ⟨hz, hb1, hb2⟩
theorem table_cells : Tryz.prog.cellsOf 24 = 2 := by kernel_rfl
theorem utc_cells : Tryz.prog.cellsOf 105 = 2 := by kernel_rfl
set_option maxRecDepth 100000 in
theorem open_table {H : Type} {enc : TypeId × Value → H} {w : World} {r : Reach} {base b0 : Nat} {sp : Nat → Bool} {v : Value} {d : DataW H} {p : List MemPlace}
    (hv : Value.okWide Tryz.prog w r b0 24 v) (h : DataW.Trod enc Tryz.prog w base sp true 24 v d p) :
    ∃ (A : Option Addr) (n c : Nat) (z : Nat → Int) (x : Int), v = .agg #[.slice A n c, .int .i64 x] ∧ n ≤ maxLen ∧ FlatAt w A 2 n z ∧ (Lit.int .i64 x).wf = true := by
  obtain ⟨c0, c1, y0, y1, n, rfl, rfl, rfl, hy0, hy1⟩ := open_agg2 Tryz.underlying24 (by kernel_rfl) table_cells hv h
  obtain ⟨A, m, c, z, rfl, hm, hz⟩ := open_flat_trod (m := 2) Tryz.underlying22 (by kernel_rfl) (by kernel_rfl) (by omega) hy0
  obtain ⟨x, e1, _, wx⟩ := DataW.trod_int Tryz.underlying3 hy1
  simp at e1
  subst e1
  exact ⟨A, m, c, z, x, rfl, hm, hz, wx⟩
set_option maxRecDepth 100000 in
theorem open_utc {H : Type} {enc : TypeId × Value → H} {w : World} {r : Reach} {base b0 : Nat} {sp : Nat → Bool} {v : Value} {d : DataW H} {p : List MemPlace}
    (hv : Value.okWide Tryz.prog w r b0 105 v) (h : DataW.Trod enc Tryz.prog w base sp true 105 v d p) :
    ∃ y m : Int, v = .agg #[.int .i64 y, .int .i64 m] ∧ (Lit.int .i64 y).wf = true ∧ (Lit.int .i64 m).wf = true := by
  obtain ⟨c0, c1, y0, y1, n, rfl, rfl, rfl, hy0, hy1⟩ := open_agg2 Tryz.underlying105 (by kernel_rfl) utc_cells hv h
  obtain ⟨a, e0, _, wa⟩ := DataW.trod_int Tryz.underlying3 hy0
  obtain ⟨b, e1, _, wb⟩ := DataW.trod_int Tryz.underlying3 hy1
  simp at e0 e1
  subst e0 e1
  exact ⟨a, b, rfl, wa, wb⟩
end Go.Proofs.YtepdnkpmkhjlgaaGreat
