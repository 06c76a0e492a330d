/- An argument that is a version, or a row of versions. -/
import Derived.Test.YtfjnjababehmmaaVsRow
import Derived.Test.YtfjnjababehmmaaLaw
import Derived.Deep.Fields
import Derived.BigQuiet
set_option linter.unusedSimpArgs false
set_option linter.unusedVariables false
namespace Go.Proofs.Ytfjnjababehmmaa
open Go.ChangeShapes Go.WideShapes Go.ChangeAt Go.RowKit Go.Joins Go.Deep

theorem weights_field {H : Type} {P : Program} {t : TypeId} {xs : List (DataW H)} {fs : Array Field} (hu : P.underlying t = some (.struct fs)) {i : Nat} {f : Field} (hf : fs[i]? = some f) {d : DataW H} (hd : xs[i]? = some d) : ∀ n ∈ d.weights P f.type, n ∈ (DataW.agg xs).weights P t := by
  intro n hn
  simp only [DataW.weights, hu]
  exact DataW.weights_mem_each (j := i) (t := f.type) (by simp; exact ⟨f, by simpa using hf, rfl⟩) hd n hn
theorem u8_cells' : Try.prog.cellsOf 5 = 1 := by kernel_rfl
theorem wf_u8' {x : Int} (h : (Lit.int .u8 x).wf = true) : 0 ≤ x ∧ x ≤ 255 := by
  simp [Lit.wf, IntKind.min, IntKind.max, IntKind.signed, IntKind.bits] at h
  omega
theorem cell_lt' {w : World} {B o : Nat} {v : Value} (h : w.cell? ⟨B, o, none⟩ = some v) : B < w.heap.size := by
  rcases Nat.lt_or_ge B w.heap.size with q | q
  · exact q
  · simp [World.cell?, Array.getElem?_eq_none q] at h
/-- A slice of bytes, as it is trod. -/
theorem open_bytes {H : Type} {enc : TypeId × Value → H} {w : World} {base : Nat} {sp : Nat → Bool} {fuel : Nat} {cs : List Value} {x : DataW H × List MemPlace} (hf : DataW.trod enc Try.prog w base sp true fuel 26 cs = some x) :
    ∃ (A : Option Addr) (l : List Int) (c : Nat), cs = [.slice A l.length c] ∧ l.length ≤ c ∧ c ≤ maxLen ∧ ByL w A l ∧ isBy l ∧ (A = none → l.length = 0) ∧ (∀ M, (∀ n ∈ x.1.weights Try.prog 26, n ≤ M) → l.length ≤ M) := by
  rcases open_ints Try.underlying26 Try.underlying5 u8_cells' hf with ⟨hcs, hx⟩ | ⟨a, len, cap, zs, hcs, _, hl, hm, hz, hx, hcell, hwz⟩
  · exact ⟨none, [], 0, hcs, by simp, by unfold maxLen; omega, ByL.nil _ _, isBy_nil, fun _ => rfl, fun M _ => by simp⟩
  · have hlz : len ≤ zs.length := by rw [hz]; split <;> omega
    have hle : (zs.take len).length = len := by rw [List.length_take]; omega
    refine ⟨some a, zs.take len, cap, by rw [hle]; exact hcs, by omega, by omega, fun h0 => ?_, fun b hb => ?_, (fun e => by cases e), fun M hM => ?_⟩
    · rw [hle] at h0
      obtain ⟨B, O, spot⟩ := a
      have hspot : spot = none := by simpa [Addr.add] using World.cell?_spot (hcell 0 (by omega))
      subst hspot
      have hc : ∀ j, j < len → w.cell? ⟨B, O + j, none⟩ = some (.int .u8 (zs.getD j 0)) := fun j hj => by rw [← add_plain]; exact hcell j (by omega)
      refine ⟨B, O, rfl, cell_lt' (hc 0 h0), fun j u hu => ?_⟩
      obtain ⟨q, rfl⟩ := bC_some hu
      rw [hle] at q
      rw [hc j q, List.getD_eq_getElem?_getD, List.getElem?_eq_getElem (by omega), List.getElem_take]
      rfl
    · exact wf_u8' (hwz b (List.mem_of_mem_take hb))
    · rw [hle]
      have := hM ((len + (zs.length - len)) * Try.prog.bytesOf 5) ?_
      · have hb1 : Try.prog.bytesOf 5 = 1 := by kernel_rfl
        rw [hb1] at this
        omega
      · rw [hx]
        simp [DataW.weights, Try.underlying26, lits]
        rw [show min len zs.length = len from by omega]
        exact Or.inl rfl
theorem ver_cells : Try.prog.cellsOf 28 = 6 := by kernel_rfl
theorem stamp_cells : Try.prog.cellsOf 25 = 2 := by kernel_rfl
theorem one_cell {cs : List Value} {v : Value} (h : cs = [v]) : cs = [v] := h
set_option maxRecDepth 100000 in
/-- What a version's six cells read as. -/
theorem open_ver {H : Type} {enc : TypeId × Value → H} {w : World} {base : Nat} {sp : Nat → Bool} {fuel : Nat} {c0 c1 c2 c3 c4 c5 : Value} {x : DataW H × List MemPlace} (hf : DataW.trod enc Try.prog w base sp true fuel 28 [c0, c1, c2, c3, c4, c5] = some x) :
    ∃ (ml ct vo : Int) (A : Option Addr) (l : List Int) (c : Nat) (gone : Bool) (tt : Int), [c0, c1, c2, c3, c4, c5] = [.int .i64 ml, .int .i64 ct, .int .i64 vo, .slice A l.length c, .bool gone, .int .i64 tt] ∧ l.length ≤ c ∧ c ≤ maxLen ∧ ByL w A l ∧ isBy l ∧ (A = none → l.length = 0) ∧
      ((Lit.int .i64 ml).wf = true ∧ (Lit.int .i64 ct).wf = true ∧ (Lit.int .i64 vo).wf = true ∧ (Lit.int .i64 tt).wf = true) ∧ (∀ M, (∀ n ∈ x.1.weights Try.prog 28, n ≤ M) → l.length ≤ M) := by
  obtain ⟨xs, n, _, hx, _, hlen, hg⟩ := DataW.trod_struct Try.underlying28 hf
  have hlen' : xs.length = 5 := hlen
  have g0 := hg 0 _ rfl
  have g1 := hg 1 _ rfl
  have g2 := hg 2 _ rfl
  have g3 := hg 3 _ rfl
  have g4 := hg 4 _ rfl
  rw [List.getElem?_eq_getElem (by omega)] at g0 g1 g2 g3 g4
  have k0 : DataW.trod enc Try.prog w base sp true n 25 [c0, c1] = some xs[0] := g0
  have k1 : DataW.trod enc Try.prog w base sp true n 3 [c2] = some xs[1] := g1
  have k2 : DataW.trod enc Try.prog w base sp true n 26 [c3] = some xs[2] := g2
  have k3 : DataW.trod enc Try.prog w base sp true n 4 [c4] = some xs[3] := g3
  have k4 : DataW.trod enc Try.prog w base sp true n 3 [c5] = some xs[4] := g4
  obtain ⟨ys, m, _, hy, _, hlen2, hg2⟩ := DataW.trod_struct Try.underlying25 k0
  have hlen2' : ys.length = 2 := hlen2
  have j0 := hg2 0 _ rfl
  have j1 := hg2 1 _ rfl
  rw [List.getElem?_eq_getElem (by omega)] at j0 j1
  have i0 : DataW.trod enc Try.prog w base sp true m 3 [c0] = some ys[0] := j0
  have i1 : DataW.trod enc Try.prog w base sp true m 3 [c1] = some ys[1] := j1
  obtain ⟨ml, e0, _, w0⟩ := DataW.trod_int Try.underlying3 i0
  obtain ⟨ct, e1, _, w1⟩ := DataW.trod_int Try.underlying3 i1
  obtain ⟨vo, e2, _, w2⟩ := DataW.trod_int Try.underlying3 k1
  obtain ⟨A, l, c, e3, hl, hm, hby, hb, hn, hw⟩ := open_bytes k2
  obtain ⟨gone, e4, _⟩ := DataW.trod_bool Try.underlying4 k3
  obtain ⟨tt, e5, _, w5⟩ := DataW.trod_int Try.underlying3 k4
  simp only [List.cons.injEq, and_true] at e0 e1 e2 e3 e4 e5
  subst e0 e1 e2 e3 e4 e5
  refine ⟨ml, ct, vo, A, l, c, gone, tt, rfl, hl, hm, hby, hb, hn, ⟨w0, w1, w2, w5⟩, fun M hM => hw M (fun q hq => hM q ?_)⟩
  rw [hx]
  exact weights_field (i := 2) Try.underlying28 rfl (by simp only [List.getElem?_map]; rw [List.getElem?_eq_getElem (by omega)]; rfl) q hq
theorem weightsAll_mem {H : Type} {P : Program} {e : TypeId} : ∀ {ds : List (DataW H)} {d : DataW H}, d ∈ ds → ∀ n ∈ d.weights P e, n ∈ DataW.weightsAll P e ds
  | [], _, h, _, _ => by cases h
  | d' :: r, d, h, n, hn => by
    rw [DataW.weightsAll]
    rcases List.mem_cons.1 h with rfl | h
    · exact List.mem_append_left _ hn
    · exact List.mem_append_right _ (weightsAll_mem h n hn)
/-- What is known of a version that came in. -/
structure MvIn (w : World) (m : Mv) : Prop where
  at_ : m.At (fun _ => True) w
  w0 : (Lit.int .i64 m.v.ml).wf = true
  w1 : (Lit.int .i64 m.v.ct).wf = true
  w2 : (Lit.int .i64 m.v.vo).wf = true
  w3 : (Lit.int .i64 m.v.tt).wf = true
  cap : m.v.val.length ≤ m.c
theorem open_ver_trod {H : Type} {enc : TypeId × Value → H} {w : World} {base : Nat} {sp : Nat → Bool} {fuel : Nat} {cs : List Value} {x : DataW H × List MemPlace} (hl : cs.length = 6) (hf : DataW.trod enc Try.prog w base sp true fuel 28 cs = some x) :
    ∃ m : Mv, cs = m.cs ∧ MvIn w m ∧ (∀ M, (∀ n ∈ x.1.weights Try.prog 28, n ≤ M) → m.v.val.length ≤ M) := by
  match cs, hl with
  | [c0, c1, c2, c3, c4, c5], _ =>
    obtain ⟨ml, ct, vo, A, l, c, gone, tt, e3, hl, hm, hby, hb, hn, ⟨w0, w1, w2, w3⟩, hw⟩ := open_ver hf
    exact ⟨⟨⟨ml, ct, vo, l, gone, tt⟩, A, c⟩, e3, ⟨⟨hby, hn, fun _ _ _ => trivial, hb⟩, w0, w1, w2, w3, hl⟩, hw⟩
/-- Versions at an address. -/
def RowA (w : World) (A : Option Addr) (L : List Mv) : Prop := 0 < L.length → ∃ B O, A = some ⟨B, O, none⟩ ∧ B < w.heap.size ∧ ∀ j u, (rowV L)[j]? = some u → w.cell? ⟨B, O + j, none⟩ = some u
theorem RowA.but {S : Nat → Prop} {w w' : World} {A : Option Addr} {L : List Mv} (h : RowA w A L) (k : But S w w') (ha : 0 < L.length → Av S A) : RowA w' A L := by
  intro h0
  obtain ⟨B, O, rfl, hB, hc⟩ := h h0
  exact ⟨B, O, rfl, Nat.lt_of_lt_of_le hB k.size, fun j u hu => (k.cell B (O + j) hB (ha h0 _ rfl)).trans (hc j u hu)⟩
theorem RowA.below {w w' : World} {A : Option Addr} {L : List Mv} (h : RowA w A L) (k : Below w.heap.size w w') : RowA w' A L := h.but (S := fun _ => False) (But.of_below k) (fun _ _ _ hf => hf)
theorem open_version {H : Type} {enc : TypeId × Value → H} {w : World} {r : Reach} {b0 base : Nat} {sp : Nat → Bool} {v : Value} {d : DataW H} {p : List MemPlace} (hv : Value.okWide Try.prog w r b0 28 v) (h : DataW.Trod enc Try.prog w base sp true 28 v d p) :
    ∃ m : Mv, v = m.val ∧ MvIn w m ∧ (∀ M, (∀ n ∈ d.weights Try.prog 28, n ≤ M) → m.v.val.length ≤ M) := by
  obtain ⟨cs, rfl, hsz⟩ := okWide_struct Try.underlying28 hv
  rw [ver_cells] at hsz
  obtain ⟨ls⟩ := cs
  match ls, hsz with
  | [c0, c1, c2, c3, c4, c5], _ =>
    obtain ⟨fuel, hf⟩ := h
    have e : (Value.agg #[c0, c1, c2, c3, c4, c5]).cells.toList = [c0, c1, c2, c3, c4, c5] := by simp [Value.cells]
    rw [e] at hf
    obtain ⟨m, hm, hin, hw⟩ := open_ver_trod rfl hf
    simp only [Mv.cs, List.cons.injEq, and_true] at hm
    obtain ⟨rfl, rfl, rfl, rfl, rfl, rfl⟩ := hm
    exact ⟨m, rfl, hin, hw⟩
theorem open_versions {H : Type} {enc : TypeId × Value → H} {w : World} {r : Reach} {b0 base : Nat} {sp : Nat → Bool} {v : Value} {d : DataW H} {p : List MemPlace} (hv : Value.okWide Try.prog w r b0 22 v) (h : DataW.Trod enc Try.prog w base sp true 22 v d p) :
    ∃ (L : List Mv) (A : Option Addr) (c : Nat), v = .slice A L.length c ∧ L.length ≤ c ∧ c ≤ maxLen ∧ RowA w A L ∧ (∀ m ∈ L, MvIn w m) ∧ (A = none → L.length = 0 ∧ c = 0) ∧ (∀ M, (∀ n ∈ d.weights Try.prog 22, n ≤ M) → ∀ m ∈ L, m.v.val.length ≤ M) := by
  obtain ⟨a0, len, cap, rfl⟩ := okWide_slice Try.underlying22 hv
  obtain ⟨fuel, hf⟩ := h
  rcases Go.Deep.open_slice Try.underlying22 hf with ⟨hcs, _⟩ | ⟨a, len', cap', mm, k, D, Pl, hcs, _, hl, hmx, hmm, hx, hi⟩
  · simp [Value.cells] at hcs
    obtain ⟨rfl, rfl, rfl⟩ := hcs
    exact ⟨[], none, 0, rfl, by simp, by unfold maxLen; omega, (fun h => absurd h (by simp)), fun m hm => (by cases hm), fun _ => ⟨rfl, rfl⟩, fun M _ m hm => (by cases hm)⟩
  · simp [Value.cells] at hcs
    obtain ⟨rfl, rfl, rfl⟩ := hcs
    rw [ver_cells] at hi
    have hlm : len ≤ mm := by rw [hmm]; split <;> omega
    have hex : ∀ i, ∃ m : Mv, i < len → (∀ j u, m.cs[j]? = some u → w.cell? ((a.add (i * 6)).add j) = some u) ∧ MvIn w m ∧ (∀ M, (∀ n ∈ (D i).weights Try.prog 28, n ≤ M) → m.v.val.length ≤ M) := fun i => by
      by_cases hil : i < len
      · obtain ⟨cs', hc, ht⟩ := hi i (by omega)
        obtain ⟨_, hcl, hat⟩ := World.cells?_some hc
        obtain ⟨m, hm, hin, hw⟩ := open_ver_trod hcl ht
        refine ⟨m, fun _ => ⟨fun j u hu => ?_, hin, hw⟩⟩
        have hj : j < 6 := by
          have := (List.getElem?_eq_some_iff.1 hu).1
          simpa [Mv.cs] using this
        rw [hat j hj, hm]
        exact hu
      · exact ⟨⟨⟨0, 0, 0, [], false, 0⟩, none, 0⟩, fun h => absurd h hil⟩
    have hF : ∃ F : Nat → Mv, ∀ i, i < len → (∀ j u, (F i).cs[j]? = some u → w.cell? ((a.add (i * 6)).add j) = some u) ∧ MvIn w (F i) ∧ (∀ M, (∀ n ∈ (D i).weights Try.prog 28, n ≤ M) → (F i).v.val.length ≤ M) := ⟨fun i => Classical.choose (hex i), fun i => Classical.choose_spec (hex i)⟩
    obtain ⟨F, hF⟩ := hF
    have hLl : ((List.range len).map F).length = len := by simp
    have hLa : ∀ i, i < len → ((List.range len).map F)[i]? = some (F i) := fun i hi => by simp [hi]
    refine ⟨(List.range len).map F, some a, cap, by rw [hLl], by rw [hLl]; omega, by omega, fun h0 => ?_, fun m hm => ?_, (fun e => by cases e), fun M hM m hm => ?_⟩
    · rw [hLl] at h0
      obtain ⟨B, O, spot⟩ := a
      have h00 := (hF 0 h0).1 0 _ rfl
      have hspot : spot = none := by simpa [Addr.add] using World.cell?_spot h00
      subst hspot
      rw [add_plain, add_plain] at h00
      refine ⟨B, O, rfl, cell_lt' h00, fun j u hu => ?_⟩
      have hj : j < len * 6 := by
        have := (List.getElem?_eq_some_iff.1 hu).1
        rwa [rowV_len, hLl] at this
      have hk : j / 6 < len := by omega
      have he : j / 6 * 6 + j % 6 = j := by omega
      have h2 := rowV_at (hLa (j / 6) hk) (j % 6) (by omega)
      rw [he] at h2
      rw [h2] at hu
      have h3 := (hF (j / 6) hk).1 (j % 6) u hu
      rw [add_plain, add_plain, Nat.add_assoc, he] at h3
      exact h3
    · obtain ⟨i, hi', rfl⟩ := List.mem_map.1 hm
      exact (hF i (List.mem_range.1 hi')).2.1
    · obtain ⟨i, hi', rfl⟩ := List.mem_map.1 hm
      have hil := List.mem_range.1 hi'
      refine (hF i hil).2.2 M (fun n hn => hM n ?_)
      injection hx with hx1 _
      rw [hx1]
      simp only [DataW.weights, Try.underlying22]
      exact List.mem_cons_of_mem _ (List.mem_append_left _ (weightsAll_mem (List.mem_map.2 ⟨i, List.mem_range.2 hil, rfl⟩) n hn))
theorem sized_each {H : Type} {P : Program} {ts : List TypeId} {ds : List (DataW H)} (h : (DataW.weightsEach P ts ds).all (· ≤ reachBytes) = true) {j : Nat} {t : TypeId} {d : DataW H} (ht : ts[j]? = some t) (hd : ds[j]? = some d) : ∀ n ∈ d.weights P t, n ≤ reachBytes := fun n hn => by
  simpa using List.all_eq_true.1 h n (DataW.weights_mem_each ht hd n hn)
end Go.Proofs.Ytfjnjababehmmaa
