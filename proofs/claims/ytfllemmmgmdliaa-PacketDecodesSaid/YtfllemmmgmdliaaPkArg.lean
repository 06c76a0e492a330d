/- An argument that is a packet. -/
import Derived.Test.YtfllemmmgmdliaaPkKnown
import Derived.Test.YtfllemmmgmdliaaLaw
import Derived.Deep.Fields
set_option linter.unusedSimpArgs false
set_option linter.unusedVariables false
namespace Go.Proofs.Ytfllemmmgmdliaa
open Go.ChangeShapes Go.WideShapes Go.ChangeAt Go.RowKit Go.Joins Go.Deep

/-- A struct of one-cell fields, by value: each field's cell with its reading. -/
theorem open_fields {H : Type} {enc : TypeId × Value → H} {P : Program} {w : World} {base : Nat} {sp : Nat → Bool} {held : Bool} {r : Reach} {b0 : Nat} {t : TypeId} {fs : Array Field} {v : Value} {d : DataW H} {p : List MemPlace} (hs : P.underlying t = some (.struct fs)) (hone : oneCellFields P fs = true) (hC : P.cellsOf t = fs.size)
    (hv : Value.okWide P w r b0 t v) (h : DataW.Trod enc P w base sp held t v d p) :
    ∃ cs : Array Value, v = .agg cs ∧ cs.size = fs.size ∧ ∀ (j : Nat) (f : Field), fs[j]? = some f → ∃ (c : Value) (y : DataW H × List MemPlace) (n : Nat), cs[j]? = some c ∧ DataW.trod enc P w base sp held n f.type [c] = some y := by
  obtain ⟨cs, rfl, hsz⟩ := okWide_struct hs hv
  refine ⟨cs, rfl, hsz.trans hC, fun j f hj => ?_⟩
  obtain ⟨fuel, hf⟩ := h
  obtain ⟨xs, n, _, _, _, hlen, hg⟩ := DataW.trod_struct hs hf
  obtain ⟨ho, hk⟩ := hone_of hone j f hj
  have hjl : j < fs.size := (Array.getElem?_eq_some_iff.1 hj).1
  have hjc : j < cs.size := by rw [hsz, hC]; exact hjl
  have h1 := hg j f hj
  rw [ho, hk] at h1
  have e : ((Value.agg cs).cells.toList.drop j).take 1 = [cs[j]] := by
    have e0 : (Value.agg cs).cells = cs := by simp [Value.cells]
    rw [e0, List.drop_eq_getElem_cons (by simpa using hjc)]
    simp
  rw [e] at h1
  exact ⟨cs[j], xs[j]'(by omega), n, by simp [hjc], by rw [h1]; exact List.getElem?_eq_getElem (by omega)⟩
theorem wf_u64 {x : Int} (h : (Lit.int .u64 x).wf = true) : 0 ≤ x ∧ x < 18446744073709551616 := by
  simp [Lit.wf, IntKind.min, IntKind.max, IntKind.signed, IntKind.bits] at h
  exact ⟨by omega, by omega⟩
theorem wf_i64 {x : Int} (h : (Lit.int .i64 x).wf = true) : -9223372036854775808 ≤ x ∧ x ≤ 9223372036854775807 := by
  simp [Lit.wf, IntKind.min, IntKind.max, IntKind.signed, IntKind.bits] at h
  exact ⟨by omega, by omega⟩
theorem open_packet {H : Type} {enc : TypeId × Value → H} {w : World} {r : Reach} {base b0 : Nat} {sp : Nat → Bool} {held : Bool} {v : Value} {d : DataW H} {p : List MemPlace}
    (hv : Value.okWide Try.prog w r b0 24 v) (h : DataW.Trod enc Try.prog w base sp held 24 v d p) :
    ∃ x0 x1 x2 x3 x4 x5 x6 x7 : Int, v = pkV x0 x1 x2 x3 x4 x5 x6 x7 ∧ (0 ≤ x5 ∧ x5 < 18446744073709551616) ∧ (0 ≤ x6 ∧ x6 < 18446744073709551616) ∧ (0 ≤ x7 ∧ x7 < 18446744073709551616) := by
  obtain ⟨cs, rfl, hsz, hf⟩ := open_fields Try.underlying24 (by kernel_rfl) (by kernel_rfl) hv h
  obtain ⟨l⟩ := cs
  match l, hsz with
  | [c0, c1, c2, c3, c4, c5, c6, c7], _ =>
    obtain ⟨a0, y0, n0, e0, h0⟩ := hf 0 _ rfl
    obtain ⟨x0, q0, _, w0⟩ := DataW.trod_int Try.underlying3 h0
    simp at e0 q0
    subst e0
    subst q0
    obtain ⟨a1, y1, n1, e1, h1⟩ := hf 1 _ rfl
    obtain ⟨x1, q1, _, w1⟩ := DataW.trod_int Try.underlying3 h1
    simp at e1 q1
    subst e1
    subst q1
    obtain ⟨a2, y2, n2, e2, h2⟩ := hf 2 _ rfl
    obtain ⟨x2, q2, _, w2⟩ := DataW.trod_int Try.underlying3 h2
    simp at e2 q2
    subst e2
    subst q2
    obtain ⟨a3, y3, n3, e3, h3⟩ := hf 3 _ rfl
    obtain ⟨x3, q3, _, w3⟩ := DataW.trod_int Try.underlying3 h3
    simp at e3 q3
    subst e3
    subst q3
    obtain ⟨a4, y4, n4, e4, h4⟩ := hf 4 _ rfl
    obtain ⟨x4, q4, _, w4⟩ := DataW.trod_int Try.underlying3 h4
    simp at e4 q4
    subst e4
    subst q4
    obtain ⟨a5, y5, n5, e5, h5⟩ := hf 5 _ rfl
    obtain ⟨x5, q5, _, w5⟩ := DataW.trod_int Try.underlying22 h5
    simp at e5 q5
    subst e5
    subst q5
    obtain ⟨a6, y6, n6, e6, h6⟩ := hf 6 _ rfl
    obtain ⟨x6, q6, _, w6⟩ := DataW.trod_int Try.underlying22 h6
    simp at e6 q6
    subst e6
    subst q6
    obtain ⟨a7, y7, n7, e7, h7⟩ := hf 7 _ rfl
    obtain ⟨x7, q7, _, w7⟩ := DataW.trod_int Try.underlying22 h7
    simp at e7 q7
    subst e7
    subst q7
    exact ⟨x0, x1, x2, x3, x4, x5, x6, x7, rfl, wf_u64 w5, wf_u64 w6, wf_u64 w7⟩
end Go.Proofs.Ytfllemmmgmdliaa
