/- Stage 25: an argument that is a row of events (written by gen/argev25.py). -/
import Derived.Test.YtdjhpajmbddffaaEv25
import Derived.Test.YtdjhpajmbddffaaArgRows
set_option linter.unusedSimpArgs false
set_option linter.unusedVariables false
namespace Go.Proofs.Ytdjhpajmbddffaa
open Go.ChangeShapes Go.WideShapes Go.ChangeAt Go.RowKit Go.Joins Go.Deep

/-- A pair of a key and a value. -/
structure Pr where
  key : ByteArray
  A : Option Addr
  p : List Int
  c : Nat
def Pr.cs (a : Pr) : List Value := [.string a.key, .slice a.A a.p.length a.c]
theorem Pr.len (a : Pr) : a.cs.length = 2 := rfl
def PrIn (w : World) (a : Pr) : Prop := ByL w a.A a.p ∧ isBy a.p ∧ (a.A = none → a.p.length = 0) ∧ a.p.length ≤ maxLen
/-- An event and its bytes. -/
structure EvA where
  e : Ev
  p : List Int
  q : List Int
  Ps : List Pr
structure EvIn (w : World) (a : EvA) : Prop where
  vl : a.e.vl = a.p.length
  vby : ByL w a.e.A a.p
  vis : isBy a.p
  vn : a.e.A = none → a.p.length = 0
  vm : a.p.length ≤ maxLen
  bl : a.e.bl = a.q.length
  bby : ByL w a.e.B a.q
  bis : isBy a.q
  bn : a.e.B = none → a.q.length = 0
  bm : a.q.length ≤ maxLen
  pl : a.e.pl = a.Ps.length
  row : RowG Pr.cs w a.e.P a.Ps
  all : ∀ x ∈ a.Ps, PrIn w x
  pn : a.e.P = none → a.Ps.length = 0
  pm : a.Ps.length ≤ maxLen
theorem pair_cells25 : Try.prog.cellsOf 53 = 2 := by kernel_rfl
theorem event_cells25 : Try.prog.cellsOf 47 = 18 := by kernel_rfl
set_option maxRecDepth 100000 in
theorem pair_trod {H : Type} {enc : TypeId × Value → H} {w : World} {base : Nat} {sp : Nat → Bool} (fuel : Nat) (cs : List Value) (x : DataW H × List MemPlace) (hl : cs.length = 2) (hf : DataW.trod enc Try.prog w base sp true fuel 53 cs = some x) :
    ∃ a : Pr, cs = a.cs ∧ PrIn w a ∧ (∀ M, (∀ n ∈ x.1.weights Try.prog 53, n ≤ M) → True) := by
  match cs, hl with
  | [c0, c1], _ =>
    obtain ⟨xs, n, _, _, _, hlxs, hgxs⟩ := DataW.trod_struct Try.underlying53 hf
    have hlxs' : xs.length = 2 := hlxs
    have gxs0 := hgxs 0 _ rfl
    have gxs1 := hgxs 1 _ rfl
    rw [List.getElem?_eq_getElem (by omega)] at gxs0 gxs1
    have kxs0 : DataW.trod enc Try.prog w base sp true n 9 [c0] = some xs[0] := gxs0
    have kxs1 : DataW.trod enc Try.prog w base sp true n 33 [c1] = some xs[1] := gxs1
    obtain ⟨key, e0, _⟩ := DataW.trod_string Try.underlying9 kxs0
    obtain ⟨A, p, c, e1, hle, hmx, h1, h2, h3, _⟩ := open_bytes kxs1
    simp only [List.cons.injEq, and_true] at e0 e1
    subst e0 e1
    exact ⟨⟨key, A, p, c⟩, rfl, ⟨h1, h2, h3, by show p.length ≤ maxLen; omega⟩, fun _ _ => trivial⟩
set_option maxRecDepth 100000 in
set_option maxHeartbeats 4000000 in
theorem event_trod {H : Type} {enc : TypeId × Value → H} {w : World} {base : Nat} {sp : Nat → Bool} (fuel : Nat) (cs : List Value) (x : DataW H × List MemPlace) (hl : cs.length = 18) (hf : DataW.trod enc Try.prog w base sp true fuel 47 cs = some x) :
    ∃ a : EvA, cs = a.e.cs ∧ EvIn w a ∧ (∀ M, (∀ n ∈ x.1.weights Try.prog 47, n ≤ M) → True) := by
  match cs, hl with
  | [c0, c1, c2, c3, c4, c5, c6, c7, c8, c9, c10, c11, c12, c13, c14, c15, c16, c17], _ =>
    obtain ⟨xs, n, _, _, _, hlxs, hgxs⟩ := DataW.trod_struct Try.underlying47 hf
    have hlxs' : xs.length = 3 := hlxs
    have gxs0 := hgxs 0 _ rfl
    have gxs1 := hgxs 1 _ rfl
    have gxs2 := hgxs 2 _ rfl
    rw [List.getElem?_eq_getElem (by omega)] at gxs0 gxs1 gxs2
    have kxs0 : DataW.trod enc Try.prog w base sp true n 3 [c0] = some xs[0] := gxs0
    have kxs1 : DataW.trod enc Try.prog w base sp true n 41 [c1, c2, c3, c4, c5, c6, c7, c8, c9, c10] = some xs[1] := gxs1
    have kxs2 : DataW.trod enc Try.prog w base sp true n 45 [c11, c12, c13, c14, c15, c16, c17] = some xs[2] := gxs2
    obtain ⟨ys, n1, _, _, _, hlys, hgys⟩ := DataW.trod_struct Try.underlying41 kxs1
    have hlys' : ys.length = 9 := hlys
    have gys0 := hgys 0 _ rfl
    have gys1 := hgys 1 _ rfl
    have gys2 := hgys 2 _ rfl
    have gys3 := hgys 3 _ rfl
    have gys4 := hgys 4 _ rfl
    have gys5 := hgys 5 _ rfl
    have gys6 := hgys 6 _ rfl
    have gys7 := hgys 7 _ rfl
    have gys8 := hgys 8 _ rfl
    rw [List.getElem?_eq_getElem (by omega)] at gys0 gys1 gys2 gys3 gys4 gys5 gys6 gys7 gys8
    have kys0 : DataW.trod enc Try.prog w base sp true n1 3 [c1] = some ys[0] := gys0
    have kys1 : DataW.trod enc Try.prog w base sp true n1 3 [c2] = some ys[1] := gys1
    have kys2 : DataW.trod enc Try.prog w base sp true n1 3 [c3] = some ys[2] := gys2
    have kys3 : DataW.trod enc Try.prog w base sp true n1 3 [c4] = some ys[3] := gys3
    have kys4 : DataW.trod enc Try.prog w base sp true n1 5 [c5] = some ys[4] := gys4
    have kys5 : DataW.trod enc Try.prog w base sp true n1 32 [c6, c7] = some ys[5] := gys5
    have kys6 : DataW.trod enc Try.prog w base sp true n1 9 [c8] = some ys[6] := gys6
    have kys7 : DataW.trod enc Try.prog w base sp true n1 9 [c9] = some ys[7] := gys7
    have kys8 : DataW.trod enc Try.prog w base sp true n1 33 [c10] = some ys[8] := gys8
    obtain ⟨zs, n2, _, _, _, hlzs, hgzs⟩ := DataW.trod_struct Try.underlying32 kys5
    have hlzs' : zs.length = 2 := hlzs
    have gzs0 := hgzs 0 _ rfl
    have gzs1 := hgzs 1 _ rfl
    rw [List.getElem?_eq_getElem (by omega)] at gzs0 gzs1
    have kzs0 : DataW.trod enc Try.prog w base sp true n2 3 [c6] = some zs[0] := gzs0
    have kzs1 : DataW.trod enc Try.prog w base sp true n2 3 [c7] = some zs[1] := gzs1
    obtain ⟨us, n3, _, _, _, hlus, hgus⟩ := DataW.trod_struct Try.underlying45 kxs2
    have hlus' : us.length = 6 := hlus
    have gus0 := hgus 0 _ rfl
    have gus1 := hgus 1 _ rfl
    have gus2 := hgus 2 _ rfl
    have gus3 := hgus 3 _ rfl
    have gus4 := hgus 4 _ rfl
    have gus5 := hgus 5 _ rfl
    rw [List.getElem?_eq_getElem (by omega)] at gus0 gus1 gus2 gus3 gus4 gus5
    have kus0 : DataW.trod enc Try.prog w base sp true n3 42 [c11] = some us[0] := gus0
    have kus1 : DataW.trod enc Try.prog w base sp true n3 3 [c12] = some us[1] := gus1
    have kus2 : DataW.trod enc Try.prog w base sp true n3 32 [c13, c14] = some us[2] := gus2
    have kus3 : DataW.trod enc Try.prog w base sp true n3 4 [c15] = some us[3] := gus3
    have kus4 : DataW.trod enc Try.prog w base sp true n3 33 [c16] = some us[4] := gus4
    have kus5 : DataW.trod enc Try.prog w base sp true n3 43 [c17] = some us[5] := gus5
    obtain ⟨vs, n4, _, _, _, hlvs, hgvs⟩ := DataW.trod_struct Try.underlying32 kus2
    have hlvs' : vs.length = 2 := hlvs
    have gvs0 := hgvs 0 _ rfl
    have gvs1 := hgvs 1 _ rfl
    rw [List.getElem?_eq_getElem (by omega)] at gvs0 gvs1
    have kvs0 : DataW.trod enc Try.prog w base sp true n4 3 [c13] = some vs[0] := gvs0
    have kvs1 : DataW.trod enc Try.prog w base sp true n4 3 [c14] = some vs[1] := gvs1
    obtain ⟨who, e_who, _, _⟩ := DataW.trod_int Try.underlying3 kxs0
    obtain ⟨kd, e_kd, _, _⟩ := DataW.trod_int Try.underlying3 kys0
    obtain ⟨nd, e_nd, _, _⟩ := DataW.trod_int Try.underlying3 kys1
    obtain ⟨nn, e_nn, _, _⟩ := DataW.trod_int Try.underlying3 kys2
    obtain ⟨mm, e_mm, _, _⟩ := DataW.trod_int Try.underlying3 kys3
    obtain ⟨by8, e_by8, _, _⟩ := DataW.trod_int Try.underlying5 kys4
    obtain ⟨sm, e_sm, _, _⟩ := DataW.trod_int Try.underlying3 kzs0
    obtain ⟨sc, e_sc, _, _⟩ := DataW.trod_int Try.underlying3 kzs1
    obtain ⟨er, e_er, _, _⟩ := DataW.trod_int Try.underlying42 kus0
    obtain ⟨an, e_an, _, _⟩ := DataW.trod_int Try.underlying3 kus1
    obtain ⟨tm, e_tm, _, _⟩ := DataW.trod_int Try.underlying3 kvs0
    obtain ⟨tc, e_tc, _, _⟩ := DataW.trod_int Try.underlying3 kvs1
    obtain ⟨key, e_key, _⟩ := DataW.trod_string Try.underlying9 kys6
    obtain ⟨hi, e_hi, _⟩ := DataW.trod_string Try.underlying9 kys7
    obtain ⟨A, p, vc, e_A, _, _, a1, a2, a3, _⟩ := open_bytes kys8
    obtain ⟨fd, e_fd, _⟩ := DataW.trod_bool Try.underlying4 kus3
    obtain ⟨Bd, q, bc, e_B, _, _, b1, b2, b3, _⟩ := open_bytes kus4
    obtain ⟨Ps, Pd, pc, e_P, _, _, r1, r2, r3, _⟩ := rows_trod Pr.cs 2 (by omega) Pr.len Try.underlying43 pair_cells25 (PrIn w) (fun _ _ => True) ⟨⟨#[]⟩, none, [], 0⟩ (fun fuel cs x h1 h2 => pair_trod fuel cs x h1 h2) kus5
    simp only [List.cons.injEq, and_true] at e_who e_kd e_nd e_nn e_mm e_by8 e_sm e_sc e_er e_an e_tm e_tc e_key e_hi e_A e_fd e_B e_P
    subst e_who e_kd e_nd e_nn e_mm e_by8 e_sm e_sc e_er e_an e_tm e_tc e_key e_hi e_A e_fd e_B e_P
    exact ⟨⟨⟨who, kd, nd, nn, mm, by8, sm, sc, key, hi, A, p.length, vc, er, an, tm, tc, fd, Bd, q.length, bc, Pd, Ps.length, pc⟩, p, q, Ps⟩, rfl, ⟨rfl, a1, a2, a3, by show p.length ≤ maxLen; omega, rfl, b1, b2, b3, by show q.length ≤ maxLen; omega, rfl, r1, r2, r3, by show Ps.length ≤ maxLen; omega⟩, fun _ _ => trivial⟩
end Go.Proofs.Ytdjhpajmbddffaa
