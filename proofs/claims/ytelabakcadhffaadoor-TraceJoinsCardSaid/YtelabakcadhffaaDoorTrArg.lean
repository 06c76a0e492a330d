/- Arguments of trace's laws: rows of steps and of answers; heavy of an answer. -/
import Derived.Test.YtelabakcadhffaaDoorTrLines
set_option linter.unusedSimpArgs false
set_option linter.unusedVariables false
namespace Go.Proofs.YtelabakcadhffaaDoor
open Go.ChangeShapes Go.WideShapes Go.ChangeAt Go.RowKit Go.Joins Go.Deep Go.Sort

theorem step_cells : Tryd.prog.cellsOf 40 = 10 := by kernel_rfl
theorem ans_cells : Tryd.prog.cellsOf 34 = 7 := by kernel_rfl
theorem pair_cells : Tryd.prog.cellsOf 42 = 2 := by kernel_rfl
def BdP (x : Pa) (M : Nat) : Prop := x.key.size ≤ M ∧ x.val.length ≤ M
structure PaQ (w : World) (x : Pa) : Prop where
  by_ : ByL w x.A x.val
  is : isBy x.val
  n : x.A = none → x.val.length = 0
  mx : x.val.length ≤ maxLen
theorem pair_trod {H : Type} {enc : TypeId × Value → H} {w : World} {base : Nat} {sp : Nat → Bool} (fuel : Nat) (cs : List Value) (x : DataW H × List MemPlace) (hl : cs.length = 2) (hf : DataW.trod enc Tryd.prog w base sp true fuel 42 cs = some x) :
    ∃ a : Pa, cs = a.cs ∧ PaQ w a ∧ (∀ M, (∀ n ∈ x.1.weights Tryd.prog 42, n ≤ M) → BdP a M) := by
  match cs, hl with
  | [c0, c1], _ =>
    obtain ⟨xs, n, _, hx, _, hlen, hg⟩ := DataW.trod_struct Tryd.underlying42 hf
    have hlen' : xs.length = 2 := hlen
    have g0 := hg 0 _ rfl
    have g1 := hg 1 _ rfl
    rw [List.getElem?_eq_getElem (by omega)] at g0 g1
    have k0 : DataW.trod enc Tryd.prog w base sp true n 9 [c0] = some xs[0] := g0
    have k1 : DataW.trod enc Tryd.prog w base sp true n 22 [c1] = some xs[1] := g1
    obtain ⟨key, e0, hk, _⟩ := DataW.trod_string Tryd.underlying9 k0
    obtain ⟨A, l, c, e1, hl, hm, hby, hb, hn, hw⟩ := open_bytes k1
    simp only [List.cons.injEq, and_true] at e0 e1
    subst e0 e1
    refine ⟨⟨key, l, A, c⟩, rfl, ⟨hby, hb, hn, by show l.length ≤ maxLen; omega⟩, fun M hM => ⟨?_, hw M (fun q hq => hM q ?_)⟩⟩
    · refine hM key.size ?_
      rw [hx]
      refine weights_field (i := 0) Tryd.underlying42 rfl (by simp only [List.getElem?_map]; rw [List.getElem?_eq_getElem (by omega)]; rfl) _ ?_
      rw [hk]
      simp [DataW.weights]
    · rw [hx]
      exact weights_field (i := 1) Tryd.underlying42 rfl (by simp only [List.getElem?_map]; rw [List.getElem?_eq_getElem (by omega)]; rfl) q hq
theorem wf64 {n : Int} (h : (Lit.int .i64 n).wf = true) : In64 n := wf_i64 h
theorem step_trod {H : Type} {enc : TypeId × Value → H} {w : World} {base : Nat} {sp : Nat → Bool} (fuel : Nat) (cs : List Value) (x : DataW H × List MemPlace) (hl : cs.length = 10) (hf : DataW.trod enc Tryd.prog w base sp true fuel 40 cs = some x) :
    ∃ a : Sp, cs = a.cs ∧ a.Ok ∧ (∀ M, (∀ n ∈ x.1.weights Tryd.prog 40, n ≤ M) → True) := by
  match cs, hl with
  | [c0, c1, c2, c3, c4, c5, c6, c7, c8, c9], _ =>
    obtain ⟨xs, n, _, hx, _, hlen, hg⟩ := DataW.trod_struct Tryd.underlying40 hf
    have hlen' : xs.length = 9 := hlen
    have g0 := hg 0 _ rfl
    have g1 := hg 1 _ rfl
    have g2 := hg 2 _ rfl
    have g3 := hg 3 _ rfl
    have g4 := hg 4 _ rfl
    have g5 := hg 5 _ rfl
    have g6 := hg 6 _ rfl
    have g7 := hg 7 _ rfl
    have g8 := hg 8 _ rfl
    rw [List.getElem?_eq_getElem (by omega)] at g0 g1 g2 g3 g4 g5 g6 g7 g8
    have k0 : DataW.trod enc Tryd.prog w base sp true n 3 [c0] = some xs[0] := g0
    have k1 : DataW.trod enc Tryd.prog w base sp true n 3 [c1] = some xs[1] := g1
    have k2 : DataW.trod enc Tryd.prog w base sp true n 3 [c2] = some xs[2] := g2
    have k3 : DataW.trod enc Tryd.prog w base sp true n 3 [c3] = some xs[3] := g3
    have k4 : DataW.trod enc Tryd.prog w base sp true n 5 [c4] = some xs[4] := g4
    have k5 : DataW.trod enc Tryd.prog w base sp true n 31 [c5, c6] = some xs[5] := g5
    have k6 : DataW.trod enc Tryd.prog w base sp true n 9 [c7] = some xs[6] := g6
    have k7 : DataW.trod enc Tryd.prog w base sp true n 9 [c8] = some xs[7] := g7
    have k8 : DataW.trod enc Tryd.prog w base sp true n 22 [c9] = some xs[8] := g8
    obtain ⟨ys, m, _, hy, _, hlen2, hg2⟩ := DataW.trod_struct Tryd.underlying31 k5
    have hlen2' : ys.length = 2 := hlen2
    have j0 := hg2 0 _ rfl
    have j1 := hg2 1 _ rfl
    rw [List.getElem?_eq_getElem (by omega)] at j0 j1
    have i0 : DataW.trod enc Tryd.prog w base sp true m 3 [c5] = some ys[0] := j0
    have i1 : DataW.trod enc Tryd.prog w base sp true m 3 [c6] = some ys[1] := j1
    obtain ⟨a0, e0, _, w0⟩ := DataW.trod_int Tryd.underlying3 k0
    obtain ⟨a1, e1, _, w1⟩ := DataW.trod_int Tryd.underlying3 k1
    obtain ⟨a2, e2, _, w2⟩ := DataW.trod_int Tryd.underlying3 k2
    obtain ⟨a3, e3, _, w3⟩ := DataW.trod_int Tryd.underlying3 k3
    obtain ⟨a4, e4, _, w4⟩ := DataW.trod_int Tryd.underlying5 k4
    obtain ⟨a5, e5, _, w5⟩ := DataW.trod_int Tryd.underlying3 i0
    obtain ⟨a6, e6, _, w6⟩ := DataW.trod_int Tryd.underlying3 i1
    obtain ⟨key1, e7, _, _⟩ := DataW.trod_string Tryd.underlying9 k6
    obtain ⟨key2, e8, _, _⟩ := DataW.trod_string Tryd.underlying9 k7
    obtain ⟨A, l, c, e9, _⟩ := open_bytes k8
    simp only [List.cons.injEq, and_true] at e0 e1 e2 e3 e4 e5 e6 e7 e8 e9
    subst e0 e1 e2 e3 e4 e5 e6 e7 e8 e9
    exact ⟨⟨a0, a1, a2, a3, a4, a5, a6, key1, key2, A, l.length, c⟩, rfl, ⟨wf64 w0, wf64 w1⟩, fun _ _ => trivial⟩
/-- What is known of an answer that came in. -/
structure AnQ (w : World) (x : An) : Prop where
  b2 : In64 x.er
  b3 : In64 x.n
  b4 : In64 x.m
  b5 : In64 x.c
  by_ : ByL w x.VA x.val
  is : isBy x.val
  row : RowG Pa.cs w x.PA x.P
  ins : ∀ y ∈ x.P, PaQ w y
  mx : x.val.length ≤ maxLen
  mp : x.P.length ≤ maxLen
def BdA (x : An) (M : Nat) : Prop := ∀ y ∈ x.P, BdP y M
theorem Pa.len2 (x : Pa) : x.cs.length = 2 := rfl
theorem ans_trod {H : Type} {enc : TypeId × Value → H} {w : World} {base : Nat} {sp : Nat → Bool} (fuel : Nat) (cs : List Value) (x : DataW H × List MemPlace) (hl : cs.length = 7) (hf : DataW.trod enc Tryd.prog w base sp true fuel 34 cs = some x) :
    ∃ a : An, cs = a.cs ∧ AnQ w a ∧ (∀ M, (∀ n ∈ x.1.weights Tryd.prog 34, n ≤ M) → BdA a M) := by
  match cs, hl with
  | [c0, c1, c2, c3, c4, c5, c6], _ =>
    obtain ⟨xs, n, _, hx, _, hlen, hg⟩ := DataW.trod_struct Tryd.underlying34 hf
    have hlen' : xs.length = 6 := hlen
    have g0 := hg 0 _ rfl
    have g1 := hg 1 _ rfl
    have g2 := hg 2 _ rfl
    have g3 := hg 3 _ rfl
    have g4 := hg 4 _ rfl
    have g5 := hg 5 _ rfl
    rw [List.getElem?_eq_getElem (by omega)] at g0 g1 g2 g3 g4 g5
    have k0 : DataW.trod enc Tryd.prog w base sp true n 29 [c0] = some xs[0] := g0
    have k1 : DataW.trod enc Tryd.prog w base sp true n 3 [c1] = some xs[1] := g1
    have k2 : DataW.trod enc Tryd.prog w base sp true n 31 [c2, c3] = some xs[2] := g2
    have k3 : DataW.trod enc Tryd.prog w base sp true n 4 [c4] = some xs[3] := g3
    have k4 : DataW.trod enc Tryd.prog w base sp true n 22 [c5] = some xs[4] := g4
    have k5 : DataW.trod enc Tryd.prog w base sp true n 32 [c6] = some xs[5] := g5
    obtain ⟨ys, m, _, hy, _, hlen2, hg2⟩ := DataW.trod_struct Tryd.underlying31 k2
    have hlen2' : ys.length = 2 := hlen2
    have j0 := hg2 0 _ rfl
    have j1 := hg2 1 _ rfl
    rw [List.getElem?_eq_getElem (by omega)] at j0 j1
    have i0 : DataW.trod enc Tryd.prog w base sp true m 3 [c2] = some ys[0] := j0
    have i1 : DataW.trod enc Tryd.prog w base sp true m 3 [c3] = some ys[1] := j1
    obtain ⟨a0, e0, _, w0⟩ := DataW.trod_int Tryd.underlying29 k0
    obtain ⟨a1, e1, _, w1⟩ := DataW.trod_int Tryd.underlying3 k1
    obtain ⟨a2, e2, _, w2⟩ := DataW.trod_int Tryd.underlying3 i0
    obtain ⟨a3, e3, _, w3⟩ := DataW.trod_int Tryd.underlying3 i1
    obtain ⟨fd, e4, _⟩ := DataW.trod_bool Tryd.underlying4 k3
    obtain ⟨A, l, c, e5, hl, hm, hby, hb, hn, hw⟩ := open_bytes k4
    obtain ⟨P, PA, pc, e6, h1, h2, h3, h4, h5, h6⟩ := rows_trod Pa.cs 2 (by omega) Pa.len2 Tryd.underlying32 pair_cells (PaQ w) BdP ⟨⟨#[]⟩, [], none, 0⟩ pair_trod k5
    simp only [List.cons.injEq, and_true] at e0 e1 e2 e3 e4 e5 e6
    subst e0 e1 e2 e3 e4 e5 e6
    refine ⟨⟨a0, a1, a2, a3, fd, A, l, c, PA, P, pc⟩, rfl, ⟨wf64 w0, wf64 w1, wf64 w2, wf64 w3, hby, hb, h3, h4, by show l.length ≤ maxLen; omega, by show P.length ≤ maxLen; omega⟩, fun M hM => h6 M (fun q hq => hM q ?_)⟩
    rw [hx]
    exact weights_field (i := 5) Tryd.underlying34 rfl (by simp only [List.getElem?_map]; rw [List.getElem?_eq_getElem (by omega)]; rfl) q hq
theorem rowPa_of {w : World} {A : Option Addr} {L : List Pa} (h : RowG Pa.cs w A L) : RowPa w A L := h
end Go.Proofs.YtelabakcadhffaaDoor
