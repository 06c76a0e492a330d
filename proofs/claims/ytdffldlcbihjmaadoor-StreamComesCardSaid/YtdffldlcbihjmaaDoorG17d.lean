/- wire.Decode of a frame: what is told, of whatever kind. -/
import Derived.BigQuiet
import Derived.Deep.AppendLies
import Derived.Deep.DeepHandedRow
import Derived.Deep.Fields
import Derived.Laws.IdiomCopy
import Derived.Lib.LaidTab
import Derived.Test.YtdffldlcbihjmaaDoorBut
import Derived.Test.YtdffldlcbihjmaaDoorCards
import Derived.Test.YtdffldlcbihjmaaDoorCrc
import Derived.Test.YtdffldlcbihjmaaDoorFrDec
import Derived.Test.YtdffldlcbihjmaaDoorLaw
import Derived.Test.YtdffldlcbihjmaaDoorOctMem
import Derived.Test.YtdffldlcbihjmaaDoorRec9
import Derived.Test.YtdffldlcbihjmaaDoorRecordsR
import Derived.Test.YtdffldlcbihjmaaDoorTie
import Derived.Test.YtdffldlcbihjmaaDoorWdBeat
import Derived.Test.YtdffldlcbihjmaaDoorWdIs
/- An argument that is a record. -/
/- An argument that is a row of records (head of ArgRecs). -/
/- Stage 17: what the cards share. -/
/- An argument that is a word. -/
set_option linter.unusedSimpArgs false
set_option linter.unusedVariables false
namespace Go.Proofs.YtdffldlcbihjmaaDoor
open Go.ChangeShapes Go.WideShapes Go.ChangeAt Go.RowKit Go.Joins Go.Deep

theorem weights_field {H : Type} {P : Program} {t : TypeId} {xs : List (DataW H)} {fs : Array Field} (hu : P.underlying t = some (.struct fs)) {i : Nat} {f : Field} (hf : fs[i]? = some f) {d : DataW H} (hd : xs[i]? = some d) : ∀ n ∈ d.weights P f.type, n ∈ (DataW.agg xs).weights P t := by
  intro n hn
  simp only [DataW.weights, hu]
  exact DataW.weights_mem_each (j := i) (t := f.type) (by simp; exact ⟨f, by simpa using hf, rfl⟩) hd n hn
theorem u8_cells' : Tryd.prog.cellsOf 5 = 1 := by kernel_rfl
theorem wf_u8' {x : Int} (h : (Lit.int .u8 x).wf = true) : 0 ≤ x ∧ x ≤ 255 := by
  simp [Lit.wf, IntKind.min, IntKind.max, IntKind.signed, IntKind.bits] at h
  omega
theorem cell_lt' {w : World} {B o : Nat} {v : Value} (h : w.cell? ⟨B, o, none⟩ = some v) : B < w.heap.size := by
  rcases Nat.lt_or_ge B w.heap.size with q | q
  · exact q
  · simp [World.cell?, Array.getElem?_eq_none q] at h
/-- A slice of bytes, as it is trod. -/
theorem open_bytes {H : Type} {enc : TypeId × Value → H} {w : World} {base : Nat} {sp : Nat → Bool} {fuel : Nat} {cs : List Value} {x : DataW H × List MemPlace} (hf : DataW.trod enc Tryd.prog w base sp true fuel 28 cs = some x) :
    ∃ (A : Option Addr) (l : List Int) (c : Nat), cs = [.slice A l.length c] ∧ l.length ≤ c ∧ c ≤ maxLen ∧ ByL w A l ∧ isBy l ∧ (A = none → l.length = 0) ∧ (∀ M, (∀ n ∈ x.1.weights Tryd.prog 28, n ≤ M) → l.length ≤ M) := by
  rcases open_ints Tryd.underlying28 Tryd.underlying5 u8_cells' hf with ⟨hcs, hx⟩ | ⟨a, len, cap, zs, hcs, _, hl, hm, hz, hx, hcell, hwz⟩
  · exact ⟨none, [], 0, hcs, by simp, by unfold maxLen; omega, ByL.nil _ _, isBy_nil, fun _ => rfl, fun M _ => by simp⟩
  · have hlz : len ≤ zs.length := by rw [hz]; split <;> omega
    have hle : (zs.take len).length = len := by rw [List.length_take]; omega
    refine ⟨some a, zs.take len, cap, by rw [hle]; exact hcs, by omega, by omega, fun h0 => ?_, fun b hb => ?_, (fun e => by cases e), fun M hM => ?_⟩
    · rw [hle] at h0
      obtain ⟨B, O, spot⟩ := a
      have hspot : spot = none := by simpa [Addr.add] using World.cell?_spot (hcell 0 (by omega))
      subst hspot
      have hc : ∀ j, j < len → w.cell? ⟨B, O + j, none⟩ = some (.int .u8 (zs.getD j 0)) := fun j hj => by rw [← add_plain]; exact hcell j (by omega)
      refine ⟨B, O, rfl, cell_lt' (hc 0 h0), fun j u hu => ?_⟩
      obtain ⟨q, rfl⟩ := bC_some hu
      rw [hle] at q
      rw [hc j q, List.getD_eq_getElem?_getD, List.getElem?_eq_getElem (by omega), List.getElem_take]
      rfl
    · exact wf_u8' (hwz b (List.mem_of_mem_take hb))
    · rw [hle]
      have := hM ((len + (zs.length - len)) * Tryd.prog.bytesOf 5) ?_
      · have hb1 : Tryd.prog.bytesOf 5 = 1 := by kernel_rfl
        rw [hb1] at this
        omega
      · rw [hx]
        simp [DataW.weights, Tryd.underlying28, lits]
        rw [show min len zs.length = len from by omega]
        exact Or.inl rfl
theorem rec_cells : Tryd.prog.cellsOf 89 = 9 := by kernel_rfl
theorem ver_cells : Tryd.prog.cellsOf 87 = 6 := by kernel_rfl
theorem stamp_cells : Tryd.prog.cellsOf 23 = 2 := by kernel_rfl
theorem one_cell {cs : List Value} {v : Value} (h : cs = [v]) : cs = [v] := h
set_option maxRecDepth 100000 in
/-- What a version's six cells read as. -/
theorem open_ver {H : Type} {enc : TypeId × Value → H} {w : World} {base : Nat} {sp : Nat → Bool} {fuel : Nat} {c0 c1 c2 c3 c4 c5 : Value} {x : DataW H × List MemPlace} (hf : DataW.trod enc Tryd.prog w base sp true fuel 87 [c0, c1, c2, c3, c4, c5] = some x) :
    ∃ (ml ct vo : Int) (A : Option Addr) (l : List Int) (c : Nat) (gone : Bool) (tt : Int), [c0, c1, c2, c3, c4, c5] = [.int .i64 ml, .int .i64 ct, .int .i64 vo, .slice A l.length c, .bool gone, .int .i64 tt] ∧ l.length ≤ c ∧ c ≤ maxLen ∧ ByL w A l ∧ isBy l ∧ (A = none → l.length = 0) ∧
      ((Lit.int .i64 ml).wf = true ∧ (Lit.int .i64 ct).wf = true ∧ (Lit.int .i64 vo).wf = true ∧ (Lit.int .i64 tt).wf = true) ∧ (∀ M, (∀ n ∈ x.1.weights Tryd.prog 87, n ≤ M) → l.length ≤ M) := by
  obtain ⟨xs, n, _, hx, _, hlen, hg⟩ := DataW.trod_struct Tryd.underlying87 hf
  have hlen' : xs.length = 5 := hlen
  have g0 := hg 0 _ rfl
  have g1 := hg 1 _ rfl
  have g2 := hg 2 _ rfl
  have g3 := hg 3 _ rfl
  have g4 := hg 4 _ rfl
  rw [List.getElem?_eq_getElem (by omega)] at g0 g1 g2 g3 g4
  have k0 : DataW.trod enc Tryd.prog w base sp true n 23 [c0, c1] = some xs[0] := g0
  have k1 : DataW.trod enc Tryd.prog w base sp true n 3 [c2] = some xs[1] := g1
  have k2 : DataW.trod enc Tryd.prog w base sp true n 28 [c3] = some xs[2] := g2
  have k3 : DataW.trod enc Tryd.prog w base sp true n 4 [c4] = some xs[3] := g3
  have k4 : DataW.trod enc Tryd.prog w base sp true n 3 [c5] = some xs[4] := g4
  obtain ⟨ys, m, _, hy, _, hlen2, hg2⟩ := DataW.trod_struct Tryd.underlying23 k0
  have hlen2' : ys.length = 2 := hlen2
  have j0 := hg2 0 _ rfl
  have j1 := hg2 1 _ rfl
  rw [List.getElem?_eq_getElem (by omega)] at j0 j1
  have i0 : DataW.trod enc Tryd.prog w base sp true m 3 [c0] = some ys[0] := j0
  have i1 : DataW.trod enc Tryd.prog w base sp true m 3 [c1] = some ys[1] := j1
  obtain ⟨ml, e0, _, w0⟩ := DataW.trod_int Tryd.underlying3 i0
  obtain ⟨ct, e1, _, w1⟩ := DataW.trod_int Tryd.underlying3 i1
  obtain ⟨vo, e2, _, w2⟩ := DataW.trod_int Tryd.underlying3 k1
  obtain ⟨A, l, c, e3, hl, hm, hby, hb, hn, hw⟩ := open_bytes k2
  obtain ⟨gone, e4, _⟩ := DataW.trod_bool Tryd.underlying4 k3
  obtain ⟨tt, e5, _, w5⟩ := DataW.trod_int Tryd.underlying3 k4
  simp only [List.cons.injEq, and_true] at e0 e1 e2 e3 e4 e5
  subst e0 e1 e2 e3 e4 e5
  refine ⟨ml, ct, vo, A, l, c, gone, tt, rfl, hl, hm, hby, hb, hn, ⟨w0, w1, w2, w5⟩, fun M hM => hw M (fun q hq => hM q ?_)⟩
  rw [hx]
  exact weights_field (i := 2) Tryd.underlying87 rfl (by simp only [List.getElem?_map]; rw [List.getElem?_eq_getElem (by omega)]; rfl) q hq
set_option maxRecDepth 100000 in
theorem open_record {H : Type} {enc : TypeId × Value → H} {w : World} {base b0 : Nat} {r : Reach} {sp : Nat → Bool} {v : Value} {d : DataW H} {p : List MemPlace} (hv : Value.okWide Tryd.prog w r b0 89 v) (h : DataW.Trod enc Tryd.prog w base sp true 89 v d p) :
    ∃ (o s : Int) (key : ByteArray) (ml ct vo : Int) (A : Option Addr) (l : List Int) (c : Nat) (gone : Bool) (tt : Int), v = recV o s key ml ct vo A l.length c gone tt ∧ l.length ≤ c ∧ c ≤ maxLen ∧ ByL w A l ∧ isBy l ∧ (A = none → l.length = 0) ∧
      (∀ M, (∀ n ∈ d.weights Tryd.prog 89, n ≤ M) → l.length ≤ M ∧ key.size ≤ M) := by
  obtain ⟨cs, rfl, hsz⟩ := okWide_struct Tryd.underlying89 hv
  rw [rec_cells] at hsz
  obtain ⟨ls⟩ := cs
  match ls, hsz with
  | [c0, c1, c2, c3, c4, c5, c6, c7, c8], _ =>
    obtain ⟨fuel, hf⟩ := h
    have e : (Value.agg #[c0, c1, c2, c3, c4, c5, c6, c7, c8]).cells.toList = [c0, c1, c2, c3, c4, c5, c6, c7, c8] := by simp [Value.cells]
    rw [e] at hf
    obtain ⟨xs, n, _, hx, _, hlen, hg⟩ := DataW.trod_struct Tryd.underlying89 hf
    have hlen' : xs.length = 4 := hlen
    have g0 := hg 0 _ rfl
    have g1 := hg 1 _ rfl
    have g2 := hg 2 _ rfl
    have g3 := hg 3 _ rfl
    rw [List.getElem?_eq_getElem (by omega)] at g0 g1 g2 g3
    have k0 : DataW.trod enc Tryd.prog w base sp true n 3 [c0] = some xs[0] := g0
    have k1 : DataW.trod enc Tryd.prog w base sp true n 3 [c1] = some xs[1] := g1
    have k2 : DataW.trod enc Tryd.prog w base sp true n 9 [c2] = some xs[2] := g2
    have k3 : DataW.trod enc Tryd.prog w base sp true n 87 [c3, c4, c5, c6, c7, c8] = some xs[3] := g3
    obtain ⟨o, e0, _, w0⟩ := DataW.trod_int Tryd.underlying3 k0
    obtain ⟨s, e1, _, w1⟩ := DataW.trod_int Tryd.underlying3 k1
    obtain ⟨key, e2, hk, _⟩ := DataW.trod_string Tryd.underlying9 k2
    obtain ⟨ml, ct, vo, A, l, c, gone, tt, e3, hl, hm, hby, hb, hn, _, hw⟩ := open_ver k3
    simp only [List.cons.injEq, and_true] at e0 e1 e2 e3
    obtain ⟨rfl, rfl, rfl, rfl, rfl, rfl⟩ := e3
    subst e0 e1 e2
    injection hx with hx1 hx2
    refine ⟨o, s, key, ml, ct, vo, A, l, c, gone, tt, rfl, hl, hm, hby, hb, hn, fun M hM => ⟨hw M (fun q hq => hM q ?_), hM key.size ?_⟩⟩
    · rw [hx1]
      exact weights_field (i := 3) Tryd.underlying89 rfl (by simp only [List.getElem?_map]; rw [List.getElem?_eq_getElem (by omega)]; rfl) q hq
    · rw [hx1]
      refine weights_field (i := 2) Tryd.underlying89 rfl (by simp only [List.getElem?_map]; rw [List.getElem?_eq_getElem (by omega)]; rfl) _ ?_
      rw [hk]
      simp [DataW.weights]
theorem sized_each {H : Type} {P : Program} {ts : List TypeId} {ds : List (DataW H)} (h : (DataW.weightsEach P ts ds).all (· ≤ reachBytes) = true) {j : Nat} {t : TypeId} {d : DataW H} (ht : ts[j]? = some t) (hd : ds[j]? = some d) : ∀ n ∈ d.weights P t, n ≤ reachBytes := fun n hn => by
  simpa using List.all_eq_true.1 h n (DataW.weights_mem_each ht hd n hn)
end Go.Proofs.YtdffldlcbihjmaaDoor
namespace Go.Proofs.YtdffldlcbihjmaaDoor
set_option maxRecDepth 100000
open Go.ChangeShapes Go.WideShapes Go.ChangeAt Go.RowKit Go.Joins Go.Deep

theorem weightsAll_mem {H : Type} {P : Program} {e : TypeId} : ∀ {ds : List (DataW H)} {d : DataW H}, d ∈ ds → ∀ n ∈ d.weights P e, n ∈ DataW.weightsAll P e ds
  | [], _, h, _, _ => by cases h
  | d' :: r, d, h, n, hn => by
    rw [DataW.weightsAll]
    rcases List.mem_cons.1 h with rfl | h
    · exact List.mem_append_left _ hn
    · exact List.mem_append_right _ (weightsAll_mem h n hn)
/-- What is known of a record that came in. -/
structure MrIn (w : World) (m : Mr) : Prop where
  at_ : m.At (fun _ => True) w
  key : isBy m.r.key
  val : isBy m.r.val
theorem open_rec_trod {H : Type} {enc : TypeId × Value → H} {w : World} {base : Nat} {sp : Nat → Bool} {fuel : Nat} {cs : List Value} {x : DataW H × List MemPlace} (hl : cs.length = 9) (hf : DataW.trod enc Tryd.prog w base sp true fuel 89 cs = some x) :
    ∃ m : Mr, cs = m.cs ∧ MrIn w m ∧ (∀ M, (∀ n ∈ x.1.weights Tryd.prog 89, n ≤ M) → m.r.val.length ≤ M ∧ m.r.key.length ≤ M) := by
  match cs, hl with
  | [c0, c1, c2, c3, c4, c5, c6, c7, c8], _ =>
    obtain ⟨xs, n, _, hx, _, hlen, hg⟩ := DataW.trod_struct Tryd.underlying89 hf
    have hlen' : xs.length = 4 := hlen
    have g0 := hg 0 _ rfl
    have g1 := hg 1 _ rfl
    have g2 := hg 2 _ rfl
    have g3 := hg 3 _ rfl
    rw [List.getElem?_eq_getElem (by omega)] at g0 g1 g2 g3
    have k0 : DataW.trod enc Tryd.prog w base sp true n 3 [c0] = some xs[0] := g0
    have k1 : DataW.trod enc Tryd.prog w base sp true n 3 [c1] = some xs[1] := g1
    have k2 : DataW.trod enc Tryd.prog w base sp true n 9 [c2] = some xs[2] := g2
    have k3 : DataW.trod enc Tryd.prog w base sp true n 87 [c3, c4, c5, c6, c7, c8] = some xs[3] := g3
    obtain ⟨o, e0, _, w0⟩ := DataW.trod_int Tryd.underlying3 k0
    obtain ⟨s, e1, _, w1⟩ := DataW.trod_int Tryd.underlying3 k1
    obtain ⟨key, e2, hk, _⟩ := DataW.trod_string Tryd.underlying9 k2
    obtain ⟨ml, ct, vo, A, l, c, gone, tt, e3, hl, hm, hby, hb, hn, _, hw⟩ := open_ver k3
    simp only [List.cons.injEq, and_true] at e0 e1 e2 e3
    obtain ⟨rfl, rfl, rfl, rfl, rfl, rfl⟩ := e3
    subst e0 e1 e2
    refine ⟨⟨⟨o, s, kL key, ml, ct, vo, l, gone, tt⟩, A, c⟩, by simp [Mr.cs, str_kL], ⟨⟨hby, hn, fun _ _ _ => trivial⟩, kL_by key, hb⟩, fun M hM => ⟨hw M (fun q hq => hM q ?_), ?_⟩⟩
    · rw [hx]
      exact weights_field (i := 3) Tryd.underlying89 rfl (by simp only [List.getElem?_map]; rw [List.getElem?_eq_getElem (by omega)]; rfl) q hq
    · show (kL key).length ≤ M
      rw [kL_len]
      refine hM key.size ?_
      rw [hx]
      refine weights_field (i := 2) Tryd.underlying89 rfl (by simp only [List.getElem?_map]; rw [List.getElem?_eq_getElem (by omega)]; rfl) _ ?_
      rw [hk]
      simp [DataW.weights]
theorem open_records {H : Type} {enc : TypeId × Value → H} {w : World} {r : Reach} {b0 base : Nat} {sp : Nat → Bool} {v : Value} {d : DataW H} {p : List MemPlace} (hv : Value.okWide Tryd.prog w r b0 24 v) (h : DataW.Trod enc Tryd.prog w base sp true 24 v d p) :
    ∃ (L : List Mr) (A : Option Addr) (c : Nat), v = .slice A L.length c ∧ L.length ≤ maxLen ∧ RowAt w v L ∧ (∀ m ∈ L, MrIn w m) ∧ (A = none → L.length = 0 ∧ c = 0) ∧ (∀ M, (∀ n ∈ d.weights Tryd.prog 24, n ≤ M) → ∀ m ∈ L, m.r.val.length ≤ M ∧ m.r.key.length ≤ M) := by
  obtain ⟨a0, len, cap, rfl⟩ := okWide_slice Tryd.underlying24 hv
  obtain ⟨fuel, hf⟩ := h
  rcases Go.Deep.open_slice Tryd.underlying24 hf with ⟨hcs, _⟩ | ⟨a, len', cap', mm, k, D, Pl, hcs, _, hl, hmx, hmm, hx, hi⟩
  · simp [Value.cells] at hcs
    obtain ⟨rfl, rfl, rfl⟩ := hcs
    exact ⟨[], none, 0, rfl, by simp, ⟨none, 0, rfl, fun h => absurd h (by simp)⟩, fun m hm => (by cases hm), fun _ => ⟨rfl, rfl⟩, fun M _ m hm => (by cases hm)⟩
  · simp [Value.cells] at hcs
    obtain ⟨rfl, rfl, rfl⟩ := hcs
    rw [rec_cells] at hi
    have hlm : len ≤ mm := by rw [hmm]; split <;> omega
    have hex : ∀ i, ∃ m : Mr, i < len → (∀ j u, m.cs[j]? = some u → w.cell? ((a.add (i * 9)).add j) = some u) ∧ MrIn w m ∧ (∀ M, (∀ n ∈ (D i).weights Tryd.prog 89, n ≤ M) → m.r.val.length ≤ M ∧ m.r.key.length ≤ M) := fun i => by
      by_cases hil : i < len
      · obtain ⟨cs', hc, ht⟩ := hi i (by omega)
        obtain ⟨_, hcl, hat⟩ := World.cells?_some hc
        obtain ⟨m, hm, hin, hw⟩ := open_rec_trod hcl ht
        refine ⟨m, fun _ => ⟨fun j u hu => ?_, hin, hw⟩⟩
        have hj : j < 9 := by
          have := (List.getElem?_eq_some_iff.1 hu).1
          simpa [Mr.cs] using this
        rw [hat j hj, hm]
        exact hu
      · exact ⟨⟨⟨0, 0, [], 0, 0, 0, [], false, 0⟩, none, 0⟩, fun h => absurd h hil⟩
    have hF : ∃ F : Nat → Mr, ∀ i, i < len → (∀ j u, (F i).cs[j]? = some u → w.cell? ((a.add (i * 9)).add j) = some u) ∧ MrIn w (F i) ∧ (∀ M, (∀ n ∈ (D i).weights Tryd.prog 89, n ≤ M) → (F i).r.val.length ≤ M ∧ (F i).r.key.length ≤ M) := ⟨fun i => Classical.choose (hex i), fun i => Classical.choose_spec (hex i)⟩
    obtain ⟨F, hF⟩ := hF
    have hLl : ((List.range len).map F).length = len := by simp
    have hLa : ∀ i, i < len → ((List.range len).map F)[i]? = some (F i) := fun i hi => by simp [hi]
    refine ⟨(List.range len).map F, some a, cap, by rw [hLl], by rw [hLl]; omega, ⟨some a, cap, by rw [hLl], fun h0 => ?_⟩, fun m hm => ?_, (fun e => by cases e), fun M hM m hm => ?_⟩
    · rw [hLl] at h0
      obtain ⟨B, O, spot⟩ := a
      have h00 := (hF 0 h0).1 0 _ rfl
      have hspot : spot = none := by simpa [Addr.add] using World.cell?_spot h00
      subst hspot
      rw [add_plain, add_plain] at h00
      refine ⟨B, O, rfl, cell_lt' h00, fun j u hu => ?_⟩
      have hj : j < len * 9 := by
        have := (List.getElem?_eq_some_iff.1 hu).1
        rwa [rowM_len, hLl] at this
      have hk : j / 9 < len := by omega
      have he : j / 9 * 9 + j % 9 = j := by omega
      have h2 := rowM_at (hLa (j / 9) hk) (j % 9) (by omega)
      rw [he] at h2
      rw [h2] at hu
      have h3 := (hF (j / 9) hk).1 (j % 9) u hu
      rw [add_plain, add_plain, Nat.add_assoc, he] at h3
      exact h3
    · obtain ⟨i, hi', rfl⟩ := List.mem_map.1 hm
      exact (hF i (List.mem_range.1 hi')).2.1
    · obtain ⟨i, hi', rfl⟩ := List.mem_map.1 hm
      have hil := List.mem_range.1 hi'
      refine (hF i hil).2.2 M (fun n hn => hM n ?_)
      injection hx with hx1 _
      rw [hx1]
      simp only [DataW.weights, Tryd.underlying24]
      exact List.mem_cons_of_mem _ (List.mem_append_left _ (weightsAll_mem (List.mem_map.2 ⟨i, List.mem_range.2 hil, rfl⟩) n hn))
end Go.Proofs.YtdffldlcbihjmaaDoor
namespace Go.Proofs.YtdffldlcbihjmaaDoor
open Go.ChangeShapes Go.WideShapes Go.ChangeAt Go.RowKit Go.Joins

def litCells : Nat → DataW Unit → List Value
  | 0, _ => []
  | _ + 1, .lit (.int k n) => [.int k n]
  | f + 1, .agg l => l.flatMap (litCells f)
  | _ + 1, _ => []
/-- A world in which a listed table holds what it is laid with. -/
def layAt (w : World) (g : Nat) (d : DataW Unit) : World := { w with heap := w.heap.modify g fun
  | .cells _ t fr => .cells (litCells 4 d).toArray t fr
  | o => o }
theorem plain_of {lk : Bool} {f0 : Nat} {fn0 : Func} {nm : String} (h1 : Tryd.prog.funcNamed nm = some f0) (h2 : Tryd.prog.funcs[f0]? = some fn0) (h3 : lk = Tryd.prog.looks []) (h4 : (fn0.params.all fun t => !Tryd.prog.wantsStandIn t) = true) (f : FuncId) (fn : Func) (hf : Tryd.pinned.checked.prog.funcNamed nm = some f) (hfn : Tryd.pinned.checked.prog.funcs[f]? = some fn) :
    lk = Tryd.pinned.checked.prog.looks [] ∧ ∀ (j : Nat) t, fn.params[j]? = some t → Tryd.pinned.checked.prog.wantsStandIn t = false := by
  obtain rfl : f = f0 := Option.some.inj ((show Tryd.prog.funcNamed nm = some f from hf).symm.trans h1)
  obtain rfl : fn = fn0 := Option.some.inj ((show Tryd.prog.funcs[f]? = some fn from hfn).symm.trans h2)
  refine ⟨h3, fun j t ht => ?_⟩
  have hm := Array.mem_of_getElem? ht
  have := Array.all_eq_true'.1 h4 t hm
  exact (show Tryd.prog.wantsStandIn t = false by simpa using this)
theorem nib_of_laid {W : World} (h : laidMet Tryd.prog [("meridian/octet.nibbles", Rows.laid_meridian_octet_nibbles)] W) : Nib W :=
  Lib.tabIs_of_head (g := 0) (t := 155) (e := 136) (n := 16) (rest := []) (by kernel_rfl) (by kernel_rfl) Tryd.underlying155 Tryd.underlying136 (by kernel_rfl) (by kernel_rfl) h
noncomputable def layW1 (os : Os) : World := layAt (World.holding Tryd.prog os ⟨#[], #[], []⟩) 0 Rows.laid_meridian_octet_nibbles
end Go.Proofs.YtdffldlcbihjmaaDoor
namespace Go.Proofs.YtdffldlcbihjmaaDoor
set_option maxRecDepth 100000
open Go.ChangeShapes Go.WideShapes Go.ChangeAt Go.RowKit Go.Joins Go.Deep

theorem open_recs_trod {H : Type} {enc : TypeId × Value → H} {w : World} {base : Nat} {sp : Nat → Bool} {fuel : Nat} {cs : List Value} {x : DataW H × List MemPlace} (hf : DataW.trod enc Tryd.prog w base sp true fuel 24 cs = some x) :
    ∃ (L : List Mr) (A : Option Addr) (c : Nat), cs = [.slice A L.length c] ∧ L.length ≤ maxLen ∧ RowAt w (.slice A L.length c) L ∧ (∀ m ∈ L, MrIn w m) ∧ (A = none → L.length = 0 ∧ c = 0) ∧ (∀ M, (∀ n ∈ x.1.weights Tryd.prog 24, n ≤ M) → ∀ m ∈ L, m.r.val.length ≤ M ∧ m.r.key.length ≤ M) := by
  rcases Go.Deep.open_slice Tryd.underlying24 hf with ⟨hcs, _⟩ | ⟨a, len, cap, mm, k, D, Pl, hcs, _, hl, hmx, hmm, hx, hi⟩
  · exact ⟨[], none, 0, hcs, by simp, ⟨none, 0, rfl, fun h => absurd h (by simp)⟩, fun m hm => (by cases hm), fun _ => ⟨rfl, rfl⟩, fun M _ m hm => (by cases hm)⟩
  · rw [rec_cells] at hi
    have hlm : len ≤ mm := by rw [hmm]; split <;> omega
    have hex : ∀ i, ∃ m : Mr, i < len → (∀ j u, m.cs[j]? = some u → w.cell? ((a.add (i * 9)).add j) = some u) ∧ MrIn w m ∧ (∀ M, (∀ n ∈ (D i).weights Tryd.prog 89, n ≤ M) → m.r.val.length ≤ M ∧ m.r.key.length ≤ M) := fun i => by
      by_cases hil : i < len
      · obtain ⟨cs', hc, ht⟩ := hi i (by omega)
        obtain ⟨_, hcl, hat⟩ := World.cells?_some hc
        obtain ⟨m, hm, hin, hw⟩ := open_rec_trod hcl ht
        refine ⟨m, fun _ => ⟨fun j u hu => ?_, hin, hw⟩⟩
        have hj : j < 9 := by
          have := (List.getElem?_eq_some_iff.1 hu).1
          simpa [Mr.cs] using this
        rw [hat j hj, hm]
        exact hu
      · exact ⟨⟨⟨0, 0, [], 0, 0, 0, [], false, 0⟩, none, 0⟩, fun h => absurd h hil⟩
    have hF : ∃ F : Nat → Mr, ∀ i, i < len → (∀ j u, (F i).cs[j]? = some u → w.cell? ((a.add (i * 9)).add j) = some u) ∧ MrIn w (F i) ∧ (∀ M, (∀ n ∈ (D i).weights Tryd.prog 89, n ≤ M) → (F i).r.val.length ≤ M ∧ (F i).r.key.length ≤ M) := ⟨fun i => Classical.choose (hex i), fun i => Classical.choose_spec (hex i)⟩
    obtain ⟨F, hF⟩ := hF
    have hLl : ((List.range len).map F).length = len := by simp
    have hLa : ∀ i, i < len → ((List.range len).map F)[i]? = some (F i) := fun i hi => by simp [hi]
    refine ⟨(List.range len).map F, some a, cap, by rw [hLl]; exact hcs, by rw [hLl]; omega, ⟨some a, cap, by rw [hLl], fun h0 => ?_⟩, fun m hm => ?_, (fun e => by cases e), fun M hM m hm => ?_⟩
    · rw [hLl] at h0
      obtain ⟨B, O, spot⟩ := a
      have h00 := (hF 0 h0).1 0 _ rfl
      have hspot : spot = none := by simpa [Addr.add] using World.cell?_spot h00
      subst hspot
      rw [add_plain, add_plain] at h00
      refine ⟨B, O, rfl, cell_lt' h00, fun j u hu => ?_⟩
      have hj : j < len * 9 := by
        have := (List.getElem?_eq_some_iff.1 hu).1
        rwa [rowM_len, hLl] at this
      have hk : j / 9 < len := by omega
      have he : j / 9 * 9 + j % 9 = j := by omega
      have h2 := rowM_at (hLa (j / 9) hk) (j % 9) (by omega)
      rw [he] at h2
      rw [h2] at hu
      have h3 := (hF (j / 9) hk).1 (j % 9) u hu
      rw [add_plain, add_plain, Nat.add_assoc, he] at h3
      exact h3
    · obtain ⟨i, hi', rfl⟩ := List.mem_map.1 hm
      exact (hF i (List.mem_range.1 hi')).2.1
    · obtain ⟨i, hi', rfl⟩ := List.mem_map.1 hm
      have hil := List.mem_range.1 hi'
      refine (hF i hil).2.2 M (fun n hn => hM n ?_)
      rw [hx]
      simp only [DataW.weights, Tryd.underlying24]
      exact List.mem_cons_of_mem _ (List.mem_append_left _ (weightsAll_mem (List.mem_map.2 ⟨i, List.mem_range.2 hil, rfl⟩) n hn))
theorem word_cells : Tryd.prog.cellsOf 26 = 8 := by kernel_rfl
theorem open_stamp_trod {H : Type} {enc : TypeId × Value → H} {w : World} {base : Nat} {sp : Nat → Bool} {fuel : Nat} {c0 c1 : Value} {x : DataW H × List MemPlace} (hf : DataW.trod enc Tryd.prog w base sp true fuel 23 [c0, c1] = some x) :
    ∃ m c : Int, c0 = .int .i64 m ∧ c1 = .int .i64 c := by
  obtain ⟨ys, m, _, hy, _, hlen2, hg2⟩ := DataW.trod_struct Tryd.underlying23 hf
  have hlen2' : ys.length = 2 := hlen2
  have j0 := hg2 0 _ rfl
  have j1 := hg2 1 _ rfl
  rw [List.getElem?_eq_getElem (by omega)] at j0 j1
  have i0 : DataW.trod enc Tryd.prog w base sp true m 3 [c0] = some ys[0] := j0
  have i1 : DataW.trod enc Tryd.prog w base sp true m 3 [c1] = some ys[1] := j1
  obtain ⟨ml, e0, _, w0⟩ := DataW.trod_int Tryd.underlying3 i0
  obtain ⟨ct, e1, _, w1⟩ := DataW.trod_int Tryd.underlying3 i1
  simp only [List.cons.injEq, and_true] at e0 e1
  exact ⟨ml, ct, e0, e1⟩
theorem open_word {H : Type} {enc : TypeId × Value → H} {w : World} {base b0 : Nat} {r : Reach} {sp : Nat → Bool} {v : Value} {d : DataW H} {p : List MemPlace} (hv : Value.okWide Tryd.prog w r b0 26 v) (h : DataW.Trod enc Tryd.prog w base sp true 26 v d p) :
    ∃ (k o s m1 c1 m2 c2 : Int) (L : List Mr) (A : Option Addr) (c : Nat), v = wdV k o s m1 c1 m2 c2 (.slice A L.length c) ∧ L.length ≤ maxLen ∧ RowAt w (.slice A L.length c) L ∧ (∀ m ∈ L, MrIn w m) ∧
      (∀ M, (∀ n ∈ d.weights Tryd.prog 26, n ≤ M) → ∀ m ∈ L, m.r.val.length ≤ M ∧ m.r.key.length ≤ M) := by
  obtain ⟨cs, rfl, hsz⟩ := okWide_struct Tryd.underlying26 hv
  rw [word_cells] at hsz
  obtain ⟨ls⟩ := cs
  match ls, hsz with
  | [c0, c1, c2, c3, c4, c5, c6, c7], _ =>
    obtain ⟨fuel, hf⟩ := h
    have e : (Value.agg #[c0, c1, c2, c3, c4, c5, c6, c7]).cells.toList = [c0, c1, c2, c3, c4, c5, c6, c7] := by simp [Value.cells]
    rw [e] at hf
    obtain ⟨xs, n, _, hx, _, hlen, hg⟩ := DataW.trod_struct Tryd.underlying26 hf
    have hlen' : xs.length = 6 := hlen
    have g0 := hg 0 _ rfl
    have g1 := hg 1 _ rfl
    have g2 := hg 2 _ rfl
    have g3 := hg 3 _ rfl
    have g4 := hg 4 _ rfl
    have g5 := hg 5 _ rfl
    rw [List.getElem?_eq_getElem (by omega)] at g0 g1 g2 g3 g4 g5
    have k0 : DataW.trod enc Tryd.prog w base sp true n 3 [c0] = some xs[0] := g0
    have k1 : DataW.trod enc Tryd.prog w base sp true n 3 [c1] = some xs[1] := g1
    have k2 : DataW.trod enc Tryd.prog w base sp true n 3 [c2] = some xs[2] := g2
    have k3 : DataW.trod enc Tryd.prog w base sp true n 23 [c3, c4] = some xs[3] := g3
    have k4 : DataW.trod enc Tryd.prog w base sp true n 23 [c5, c6] = some xs[4] := g4
    have k5 : DataW.trod enc Tryd.prog w base sp true n 24 [c7] = some xs[5] := g5
    obtain ⟨k, e0, _, _⟩ := DataW.trod_int Tryd.underlying3 k0
    obtain ⟨o, e1, _, _⟩ := DataW.trod_int Tryd.underlying3 k1
    obtain ⟨s, e2, _, _⟩ := DataW.trod_int Tryd.underlying3 k2
    obtain ⟨m1, n1, rfl, rfl⟩ := open_stamp_trod k3
    obtain ⟨m2, n2, rfl, rfl⟩ := open_stamp_trod k4
    obtain ⟨L, A, c, e7, hmx, hrow, hin, _, hz⟩ := open_recs_trod k5
    simp only [List.cons.injEq, and_true] at e0 e1 e2 e7
    subst e0 e1 e2 e7
    injection hx with hx1 hx2
    refine ⟨k, o, s, m1, n1, m2, n2, L, A, c, rfl, hmx, hrow, hin, fun M hM => hz M (fun q hq => hM q ?_)⟩
    rw [hx1]
    exact weights_field (i := 5) Tryd.underlying26 rfl (by simp only [List.getElem?_map]; rw [List.getElem?_eq_getElem (by omega)]; rfl) q hq
end Go.Proofs.YtdffldlcbihjmaaDoor

/- The reference's Decode of a frame (written by gen/frdecref.py). -/
namespace Go.Proofs.YtdffldlcbihjmaaDoor
open Go.RowKit Go.Sort

set_option maxRecDepth 100000 in
set_option maxHeartbeats 4000000 in
theorem rfr_dec_hsum (A : Option Addr) (l : List Int) (c : Nat) (w : World) (hby : ByL w A l) (hb : isBy l) (hl : l.length ≤ 1000000) (hc : l.length ≤ c) (hcm : c ≤ maxLen) (h8 : ¬ l.length < 8) (hs : dec4 (l.drop 4) ≠ sumL (l.take 4)) :
    Calls Tryd.prog 65 #[.slice A l.length c] w fun e w' => (e = .returned (.tuple #[.slice none 0 0, .int .i64 0, .int .i64 4]) ∧ frC l = 4) ∧ Below w.heap.size w w' := by
  obtain ⟨B, O, rfl, hBl, _⟩ := hby (by omega)
  have HBY := Lib.hid (fun (W : World) (k : Below w.heap.size w W) => hby.below k)
  have hli : (l.length : Int) ≤ 1000000 := by omega
  have h8i : ¬ (l.length : Int) < 8 := by omega
  have h8n : ¬ l.length < 8 := by omega
  have hci : (l.length : Int) ≤ (c : Int) := by omega
  have hc4 : (4 : Int) ≤ (c : Int) := by omega
  have hl4 : (4 : Int) ≤ (l.length : Int) := by omega
  have hc8 : (8 : Int) ≤ (c : Int) := by omega
  have cn4 : ¬ c = 4 := by omega
  have cn0 : ¬ c = 0 := by omega
  have hcmi : (c : Int) ≤ 9223372036854775807 := by unfold maxLen at hcm; omega
  have HT1 : Hid (∀ W, Below w.heap.size w W → Calls Tryd.prog 98 #[.slice (some ⟨B, O + 4, none⟩) (l.length - 4) (c - 4)] W fun e w' => e = .returned (.int .u32 (dec4 (l.drop 4) : Nat)) ∧ ∃ q, w' = W.drewN q) := Lib.hid (fun W k => by
    have h := ref_fromfour (some ⟨B, O + 4, none⟩) (l.drop 4) (c - 4) W ((HBY.out W k).drop 4) (isBy_drop hb 4) (by rw [List.length_drop]; omega)
    rwa [List.length_drop] at h)
  have HS1 : Hid (∀ (W : World), Below w.heap.size w W → Calls Tryd.prog 91 #[.slice (some ⟨B, O, none⟩) 4 c] W fun e w' => e = .returned (.int .u32 (sumL (l.take 4) : Nat)) ∧ W = w') := Lib.hid (fun W k => by
    have h4 : (l.take 4).length = 4 := by rw [List.length_take]; omega
    have h := ref_sum c (some ⟨B, O, none⟩) (l.take 4) W ((HBY.out W k).take 4) (isBy_take hb 4) (by omega)
    rwa [h4] at h)
  have HE := Lib.hid (frC_hsum (by omega) hs)
  have t1 : ((dec4 (l.drop 4) : Int) != (sumL (l.take 4) : Int)) = true := by simp only [bne_iff_ne, ne_eq]; omega
  have t1' : (dec4 (l.drop 4) != sumL (l.take 4)) = true := by simpa using hs
  clear hby hb hl hc hcm h8 hs
  generalize dec4 (l.drop 4) = d4 at *
  generalize sumL (l.take 4) = s4 at *
  go_enter Tryd.func65, Tryd.ntmps65
  go_upto_region 3 with fail
  go_cut [15] (fun s wx => s = .bool true ∧ Below w.heap.size w wx)
  case first =>
    go_region_with (first | (go_at_call 98; refine (HT1.out _ (by (have hbq := (Below.refl w.heap.size w); have hbz := hbq.size; (repeat' (first | (with_reducible exact Below.refl _ _) | (with_reducible assumption) | (with_reducible refine Below.trans ?_ (Below.mono (by with_reducible assumption) ?_)) | (with_reducible refine Below.alloc ?_ ?_ _) | (with_reducible refine Below.setCell ?_ ?_ _) | (with_reducible refine below_drewN ?_ _) | (with_reducible refine Below.drew ?_) | go_size))))).mono ?_; rintro e w' ⟨rfl, q, rfl⟩) | (go_at_call 91; refine (HS1.out _ (by (have hbq := (Below.refl w.heap.size w); have hbz := hbq.size; (repeat' (first | (with_reducible exact Below.refl _ _) | (with_reducible assumption) | (with_reducible refine Below.trans ?_ (Below.mono (by with_reducible assumption) ?_)) | (with_reducible refine Below.alloc ?_ ?_ _) | (with_reducible refine Below.setCell ?_ ?_ _) | (with_reducible refine below_drewN ?_ _) | (with_reducible refine Below.drew ?_) | go_size))))).mono ?_; rintro e w' ⟨rfl, rfl⟩))
    all_goals (go_wp2_with fail; go_meet; refine ⟨rfl, ?_⟩; (have hbq := (Below.refl w.heap.size w); have hbz := hbq.size; (repeat' (first | (with_reducible exact Below.refl _ _) | (with_reducible assumption) | (with_reducible refine Below.trans ?_ (Below.mono (by with_reducible assumption) ?_)) | (with_reducible refine Below.alloc ?_ ?_ _) | (with_reducible refine Below.setCell ?_ ?_ _) | (with_reducible refine below_drewN ?_ _) | (with_reducible refine Below.drew ?_) | go_size))))
  case rest =>
  obtain ⟨rfl, hBq⟩ := hcut
  go_wp2
  go_ret3
  exact ⟨⟨rfl, HE.out⟩, hBq⟩
set_option maxRecDepth 100000 in
set_option maxHeartbeats 4000000 in
theorem rfr_dec_long (A : Option Addr) (l : List Int) (c : Nat) (w : World) (hby : ByL w A l) (hb : isBy l) (hl : l.length ≤ 1000000) (hc : l.length ≤ c) (hcm : c ≤ maxLen) (h8 : ¬ l.length < 8) (hs : dec4 (l.drop 4) = sumL (l.take 4)) (hlong : 262144 < dec4 l) :
    Calls Tryd.prog 65 #[.slice A l.length c] w fun e w' => (e = .returned (.tuple #[.slice none 0 0, .int .i64 0, .int .i64 5]) ∧ frC l = 5) ∧ Below w.heap.size w w' := by
  obtain ⟨B, O, rfl, hBl, _⟩ := hby (by omega)
  have HBY := Lib.hid (fun (W : World) (k : Below w.heap.size w W) => hby.below k)
  have hli : (l.length : Int) ≤ 1000000 := by omega
  have h8i : ¬ (l.length : Int) < 8 := by omega
  have h8n : ¬ l.length < 8 := by omega
  have hci : (l.length : Int) ≤ (c : Int) := by omega
  have hc4 : (4 : Int) ≤ (c : Int) := by omega
  have hl4 : (4 : Int) ≤ (l.length : Int) := by omega
  have hc8 : (8 : Int) ≤ (c : Int) := by omega
  have cn4 : ¬ c = 4 := by omega
  have cn0 : ¬ c = 0 := by omega
  have hcmi : (c : Int) ≤ 9223372036854775807 := by unfold maxLen at hcm; omega
  have HT1 : Hid (∀ W, Below w.heap.size w W → Calls Tryd.prog 98 #[.slice (some ⟨B, O + 4, none⟩) (l.length - 4) (c - 4)] W fun e w' => e = .returned (.int .u32 (dec4 (l.drop 4) : Nat)) ∧ ∃ q, w' = W.drewN q) := Lib.hid (fun W k => by
    have h := ref_fromfour (some ⟨B, O + 4, none⟩) (l.drop 4) (c - 4) W ((HBY.out W k).drop 4) (isBy_drop hb 4) (by rw [List.length_drop]; omega)
    rwa [List.length_drop] at h)
  have HS1 : Hid (∀ (W : World), Below w.heap.size w W → Calls Tryd.prog 91 #[.slice (some ⟨B, O, none⟩) 4 c] W fun e w' => e = .returned (.int .u32 (sumL (l.take 4) : Nat)) ∧ W = w') := Lib.hid (fun W k => by
    have h4 : (l.take 4).length = 4 := by rw [List.length_take]; omega
    have h := ref_sum c (some ⟨B, O, none⟩) (l.take 4) W ((HBY.out W k).take 4) (isBy_take hb 4) (by omega)
    rwa [h4] at h)
  have t1 : ((dec4 (l.drop 4) : Int) != (sumL (l.take 4) : Int)) = false := by rw [hs]; simp
  have t1' : (dec4 (l.drop 4) != sumL (l.take 4)) = false := by rw [hs]; simp
  have HT2 : Hid (∀ W, Below w.heap.size w W → Calls Tryd.prog 98 #[.slice (some ⟨B, O, none⟩) l.length c] W fun e w' => e = .returned (.int .u32 (dec4 l : Nat)) ∧ ∃ q, w' = W.drewN q) := Lib.hid (fun W k => ref_fromfour (some ⟨B, O, none⟩) l c W (HBY.out W k) hb (by omega))
  have hn32 := dec4_lt hb
  have hnw : IntKind.i64.wrap (dec4 l : Int) = (dec4 l : Int) := IntWalk.i64_in _ (by omega)
  have HE := Lib.hid (frC_long (by omega) hs hlong)
  have t2 : decide ((262144 : Int) < (dec4 l : Int)) = true := by simp; omega
  clear hby hb hl hc hcm h8 hs hlong hn32
  generalize dec4 (l.drop 4) = d4 at *
  generalize sumL (l.take 4) = s4 at *
  generalize dec4 l = n at *
  go_enter Tryd.func65, Tryd.ntmps65
  go_upto_region 3 with fail
  go_cut [15] (fun s wx => s = .bool false ∧ Below w.heap.size w wx)
  case first =>
    go_region_with (first | (go_at_call 98; refine (HT1.out _ (by (have hbq := (Below.refl w.heap.size w); have hbz := hbq.size; (repeat' (first | (with_reducible exact Below.refl _ _) | (with_reducible assumption) | (with_reducible refine Below.trans ?_ (Below.mono (by with_reducible assumption) ?_)) | (with_reducible refine Below.alloc ?_ ?_ _) | (with_reducible refine Below.setCell ?_ ?_ _) | (with_reducible refine below_drewN ?_ _) | (with_reducible refine Below.drew ?_) | go_size))))).mono ?_; rintro e w' ⟨rfl, q, rfl⟩) | (go_at_call 91; refine (HS1.out _ (by (have hbq := (Below.refl w.heap.size w); have hbz := hbq.size; (repeat' (first | (with_reducible exact Below.refl _ _) | (with_reducible assumption) | (with_reducible refine Below.trans ?_ (Below.mono (by with_reducible assumption) ?_)) | (with_reducible refine Below.alloc ?_ ?_ _) | (with_reducible refine Below.setCell ?_ ?_ _) | (with_reducible refine below_drewN ?_ _) | (with_reducible refine Below.drew ?_) | go_size))))).mono ?_; rintro e w' ⟨rfl, rfl⟩))
    all_goals (go_wp2_with fail; go_meet; refine ⟨rfl, ?_⟩; (have hbq := (Below.refl w.heap.size w); have hbz := hbq.size; (repeat' (first | (with_reducible exact Below.refl _ _) | (with_reducible assumption) | (with_reducible refine Below.trans ?_ (Below.mono (by with_reducible assumption) ?_)) | (with_reducible refine Below.alloc ?_ ?_ _) | (with_reducible refine Below.setCell ?_ ?_ _) | (with_reducible refine below_drewN ?_ _) | (with_reducible refine Below.drew ?_) | go_size))))
  case rest =>
  obtain ⟨rfl, hBq⟩ := hcut
  have HBQ := Lib.hid hBq
  clear hBq
  go_wp2_with fail
  refine (HT2.out _ HBQ.out).mono ?_; rintro e w2 ⟨rfl, q2, hw2⟩
  have hb2 : Below w.heap.size w w2 := by rw [hw2]; exact below_drewN HBQ.out q2
  have HBW := Lib.hid hb2
  clear hb2 hw2 HBQ HT2
  go_wp2
  go_ret3
  exact ⟨⟨rfl, HE.out⟩, HBW.out⟩
set_option maxRecDepth 100000 in
set_option maxHeartbeats 4000000 in
theorem rfr_dec_cut (A : Option Addr) (l : List Int) (c : Nat) (w : World) (hby : ByL w A l) (hb : isBy l) (hl : l.length ≤ 1000000) (hc : l.length ≤ c) (hcm : c ≤ maxLen) (h8 : ¬ l.length < 8) (hs : dec4 (l.drop 4) = sumL (l.take 4)) (hlong : ¬ 262144 < dec4 l) (hcut : l.length < 12 + dec4 l) :
    Calls Tryd.prog 65 #[.slice A l.length c] w fun e w' => (e = .returned (.tuple #[.slice none 0 0, .int .i64 0, .int .i64 2]) ∧ frC l = 2) ∧ Below w.heap.size w w' := by
  obtain ⟨B, O, rfl, hBl, _⟩ := hby (by omega)
  have HBY := Lib.hid (fun (W : World) (k : Below w.heap.size w W) => hby.below k)
  have hli : (l.length : Int) ≤ 1000000 := by omega
  have h8i : ¬ (l.length : Int) < 8 := by omega
  have h8n : ¬ l.length < 8 := by omega
  have hci : (l.length : Int) ≤ (c : Int) := by omega
  have hc4 : (4 : Int) ≤ (c : Int) := by omega
  have hl4 : (4 : Int) ≤ (l.length : Int) := by omega
  have hc8 : (8 : Int) ≤ (c : Int) := by omega
  have cn4 : ¬ c = 4 := by omega
  have cn0 : ¬ c = 0 := by omega
  have hcmi : (c : Int) ≤ 9223372036854775807 := by unfold maxLen at hcm; omega
  have HT1 : Hid (∀ W, Below w.heap.size w W → Calls Tryd.prog 98 #[.slice (some ⟨B, O + 4, none⟩) (l.length - 4) (c - 4)] W fun e w' => e = .returned (.int .u32 (dec4 (l.drop 4) : Nat)) ∧ ∃ q, w' = W.drewN q) := Lib.hid (fun W k => by
    have h := ref_fromfour (some ⟨B, O + 4, none⟩) (l.drop 4) (c - 4) W ((HBY.out W k).drop 4) (isBy_drop hb 4) (by rw [List.length_drop]; omega)
    rwa [List.length_drop] at h)
  have HS1 : Hid (∀ (W : World), Below w.heap.size w W → Calls Tryd.prog 91 #[.slice (some ⟨B, O, none⟩) 4 c] W fun e w' => e = .returned (.int .u32 (sumL (l.take 4) : Nat)) ∧ W = w') := Lib.hid (fun W k => by
    have h4 : (l.take 4).length = 4 := by rw [List.length_take]; omega
    have h := ref_sum c (some ⟨B, O, none⟩) (l.take 4) W ((HBY.out W k).take 4) (isBy_take hb 4) (by omega)
    rwa [h4] at h)
  have t1 : ((dec4 (l.drop 4) : Int) != (sumL (l.take 4) : Int)) = false := by rw [hs]; simp
  have t1' : (dec4 (l.drop 4) != sumL (l.take 4)) = false := by rw [hs]; simp
  have HT2 : Hid (∀ W, Below w.heap.size w W → Calls Tryd.prog 98 #[.slice (some ⟨B, O, none⟩) l.length c] W fun e w' => e = .returned (.int .u32 (dec4 l : Nat)) ∧ ∃ q, w' = W.drewN q) := Lib.hid (fun W k => ref_fromfour (some ⟨B, O, none⟩) l c W (HBY.out W k) hb (by omega))
  have hn32 := dec4_lt hb
  have hnw : IntKind.i64.wrap (dec4 l : Int) = (dec4 l : Int) := IntWalk.i64_in _ (by omega)
  have t2 : decide ((262144 : Int) < (dec4 l : Int)) = false := by simp; omega
  obtain ⟨m, hm⟩ : ∃ m, 8 + dec4 l = m := ⟨_, rfl⟩
  have hmi : (8 : Int) + (dec4 l : Int) = (m : Int) := by omega
  have hm2 : (m : Int) ≤ 262152 := by omega
  have hm12 : (12 : Int) + (dec4 l : Int) = (m : Int) + 4 := by omega
  have HE := Lib.hid (frC_cut (by omega) hs hlong hcut)
  have t3 : (l.length : Int) < (m : Int) + 4 := by omega
  have t3' : l.length < m + 4 := by omega
  clear hby hb hl hc hcm h8 hs hlong hcut hn32 hm
  generalize dec4 (l.drop 4) = d4 at *
  generalize sumL (l.take 4) = s4 at *
  generalize dec4 l = n at *
  go_enter Tryd.func65, Tryd.ntmps65
  go_upto_region 3 with fail
  go_cut [15] (fun s wx => s = .bool false ∧ Below w.heap.size w wx)
  case first =>
    go_region_with (first | (go_at_call 98; refine (HT1.out _ (by (have hbq := (Below.refl w.heap.size w); have hbz := hbq.size; (repeat' (first | (with_reducible exact Below.refl _ _) | (with_reducible assumption) | (with_reducible refine Below.trans ?_ (Below.mono (by with_reducible assumption) ?_)) | (with_reducible refine Below.alloc ?_ ?_ _) | (with_reducible refine Below.setCell ?_ ?_ _) | (with_reducible refine below_drewN ?_ _) | (with_reducible refine Below.drew ?_) | go_size))))).mono ?_; rintro e w' ⟨rfl, q, rfl⟩) | (go_at_call 91; refine (HS1.out _ (by (have hbq := (Below.refl w.heap.size w); have hbz := hbq.size; (repeat' (first | (with_reducible exact Below.refl _ _) | (with_reducible assumption) | (with_reducible refine Below.trans ?_ (Below.mono (by with_reducible assumption) ?_)) | (with_reducible refine Below.alloc ?_ ?_ _) | (with_reducible refine Below.setCell ?_ ?_ _) | (with_reducible refine below_drewN ?_ _) | (with_reducible refine Below.drew ?_) | go_size))))).mono ?_; rintro e w' ⟨rfl, rfl⟩))
    all_goals (go_wp2_with fail; go_meet; refine ⟨rfl, ?_⟩; (have hbq := (Below.refl w.heap.size w); have hbz := hbq.size; (repeat' (first | (with_reducible exact Below.refl _ _) | (with_reducible assumption) | (with_reducible refine Below.trans ?_ (Below.mono (by with_reducible assumption) ?_)) | (with_reducible refine Below.alloc ?_ ?_ _) | (with_reducible refine Below.setCell ?_ ?_ _) | (with_reducible refine below_drewN ?_ _) | (with_reducible refine Below.drew ?_) | go_size))))
  case rest =>
  obtain ⟨rfl, hBq⟩ := hcut
  have HBQ := Lib.hid hBq
  clear hBq
  go_wp2_with fail
  refine (HT2.out _ HBQ.out).mono ?_; rintro e w2 ⟨rfl, q2, hw2⟩
  have hb2 : Below w.heap.size w w2 := by rw [hw2]; exact below_drewN HBQ.out q2
  have HBW := Lib.hid hb2
  clear hb2 hw2 HBQ HT2
  go_wp2
  go_ret3
  exact ⟨⟨rfl, HE.out⟩, HBW.out⟩
set_option maxRecDepth 100000 in
set_option maxHeartbeats 4000000 in
theorem rfr_dec_bsum (A : Option Addr) (l : List Int) (c : Nat) (w : World) (hby : ByL w A l) (hb : isBy l) (hl : l.length ≤ 1000000) (hc : l.length ≤ c) (hcm : c ≤ maxLen) (h8 : ¬ l.length < 8) (hs : dec4 (l.drop 4) = sumL (l.take 4)) (hlong : ¬ 262144 < dec4 l) (hcut : ¬ l.length < 12 + dec4 l) (hs2 : dec4 (l.drop (8 + dec4 l)) ≠ sumL (l.take (8 + dec4 l))) :
    Calls Tryd.prog 65 #[.slice A l.length c] w fun e w' => (e = .returned (.tuple #[.slice none 0 0, .int .i64 0, .int .i64 4]) ∧ frC l = 4) ∧ Below w.heap.size w w' := by
  have HS2 := Lib.hid hs2
  clear hs2
  obtain ⟨B, O, rfl, hBl, _⟩ := hby (by omega)
  have HBY := Lib.hid (fun (W : World) (k : Below w.heap.size w W) => hby.below k)
  have hli : (l.length : Int) ≤ 1000000 := by omega
  have h8i : ¬ (l.length : Int) < 8 := by omega
  have h8n : ¬ l.length < 8 := by omega
  have hci : (l.length : Int) ≤ (c : Int) := by omega
  have hc4 : (4 : Int) ≤ (c : Int) := by omega
  have hl4 : (4 : Int) ≤ (l.length : Int) := by omega
  have hc8 : (8 : Int) ≤ (c : Int) := by omega
  have cn4 : ¬ c = 4 := by omega
  have cn0 : ¬ c = 0 := by omega
  have hcmi : (c : Int) ≤ 9223372036854775807 := by unfold maxLen at hcm; omega
  have HT1 : Hid (∀ W, Below w.heap.size w W → Calls Tryd.prog 98 #[.slice (some ⟨B, O + 4, none⟩) (l.length - 4) (c - 4)] W fun e w' => e = .returned (.int .u32 (dec4 (l.drop 4) : Nat)) ∧ ∃ q, w' = W.drewN q) := Lib.hid (fun W k => by
    have h := ref_fromfour (some ⟨B, O + 4, none⟩) (l.drop 4) (c - 4) W ((HBY.out W k).drop 4) (isBy_drop hb 4) (by rw [List.length_drop]; omega)
    rwa [List.length_drop] at h)
  have HS1 : Hid (∀ (W : World), Below w.heap.size w W → Calls Tryd.prog 91 #[.slice (some ⟨B, O, none⟩) 4 c] W fun e w' => e = .returned (.int .u32 (sumL (l.take 4) : Nat)) ∧ W = w') := Lib.hid (fun W k => by
    have h4 : (l.take 4).length = 4 := by rw [List.length_take]; omega
    have h := ref_sum c (some ⟨B, O, none⟩) (l.take 4) W ((HBY.out W k).take 4) (isBy_take hb 4) (by omega)
    rwa [h4] at h)
  have t1 : ((dec4 (l.drop 4) : Int) != (sumL (l.take 4) : Int)) = false := by rw [hs]; simp
  have t1' : (dec4 (l.drop 4) != sumL (l.take 4)) = false := by rw [hs]; simp
  have HT2 : Hid (∀ W, Below w.heap.size w W → Calls Tryd.prog 98 #[.slice (some ⟨B, O, none⟩) l.length c] W fun e w' => e = .returned (.int .u32 (dec4 l : Nat)) ∧ ∃ q, w' = W.drewN q) := Lib.hid (fun W k => ref_fromfour (some ⟨B, O, none⟩) l c W (HBY.out W k) hb (by omega))
  have hn32 := dec4_lt hb
  have hnw : IntKind.i64.wrap (dec4 l : Int) = (dec4 l : Int) := IntWalk.i64_in _ (by omega)
  have t2 : decide ((262144 : Int) < (dec4 l : Int)) = false := by simp; omega
  obtain ⟨m, hm⟩ : ∃ m, 8 + dec4 l = m := ⟨_, rfl⟩
  have hmi : (8 : Int) + (dec4 l : Int) = (m : Int) := by omega
  have hm2 : (m : Int) ≤ 262152 := by omega
  have hwm : IntKind.i64.wrap (m : Int) = (m : Int) := IntWalk.i64_in _ (by omega)
  have hwm4 : IntKind.i64.wrap ((m : Int) + 4) = (m : Int) + 4 := IntWalk.i64_in _ (by omega)
  have hm12 : (12 : Int) + (dec4 l : Int) = (m : Int) + 4 := by omega
  have t3 : ¬ (l.length : Int) < (m : Int) + 4 := by omega
  have t3' : ¬ l.length < m + 4 := by omega
  have hmc : (m : Int) ≤ (c : Int) := by omega
  have hml : (m : Int) ≤ (l.length : Int) := by omega
  have hm8 : (8 : Int) ≤ (m : Int) := by omega
  have cnm : ¬ c = m := by omega
  have cn8 : ¬ c = 8 := by omega
  have HT3 : Hid (∀ W, Below w.heap.size w W → Calls Tryd.prog 98 #[.slice (some ⟨B, O + m, none⟩) (l.length - m) (c - m)] W fun e w' => e = .returned (.int .u32 (dec4 (l.drop (8 + dec4 l)) : Nat)) ∧ ∃ q, w' = W.drewN q) := Lib.hid (fun W k => by
    rw [hm]
    have h := ref_fromfour (some ⟨B, O + m, none⟩) (l.drop m) (c - m) W ((HBY.out W k).drop m) (isBy_drop hb m) (by rw [List.length_drop]; omega)
    rwa [List.length_drop] at h)
  have HS3 : Hid (∀ (W : World), Below w.heap.size w W → Calls Tryd.prog 91 #[.slice (some ⟨B, O, none⟩) m c] W fun e w' => e = .returned (.int .u32 (sumL (l.take (8 + dec4 l)) : Nat)) ∧ W = w') := Lib.hid (fun W k => by
    rw [hm]
    have h4 : (l.take m).length = m := by rw [List.length_take]; omega
    have h := ref_sum c (some ⟨B, O, none⟩) (l.take m) W ((HBY.out W k).take m) (isBy_take hb m) (by omega)
    rwa [h4] at h)
  have HE := Lib.hid (frC_bsum (by omega) hs hlong hcut HS2.out)
  have t4 : ((dec4 (l.drop (8 + dec4 l)) : Int) != (sumL (l.take (8 + dec4 l)) : Int)) = true := by simp only [bne_iff_ne, ne_eq]; exact fun q => HS2.out (by exact_mod_cast q)
  have t4' : (dec4 (l.drop (8 + dec4 l)) != sumL (l.take (8 + dec4 l))) = true := by simpa using HS2.out
  clear hby hb hl hc hcm h8 hs HS2 hlong hcut hn32 hm
  generalize dec4 (l.drop 4) = d4 at *
  generalize sumL (l.take 4) = s4 at *
  generalize dec4 (l.drop (8 + dec4 l)) = d8 at *
  generalize sumL (l.take (8 + dec4 l)) = s8 at *
  generalize dec4 l = n at *
  go_enter Tryd.func65, Tryd.ntmps65
  go_upto_region 3 with fail
  go_cut [15] (fun s wx => s = .bool false ∧ Below w.heap.size w wx)
  case first =>
    go_region_with (first | (go_at_call 98; refine (HT1.out _ (by (have hbq := (Below.refl w.heap.size w); have hbz := hbq.size; (repeat' (first | (with_reducible exact Below.refl _ _) | (with_reducible assumption) | (with_reducible refine Below.trans ?_ (Below.mono (by with_reducible assumption) ?_)) | (with_reducible refine Below.alloc ?_ ?_ _) | (with_reducible refine Below.setCell ?_ ?_ _) | (with_reducible refine below_drewN ?_ _) | (with_reducible refine Below.drew ?_) | go_size))))).mono ?_; rintro e w' ⟨rfl, q, rfl⟩) | (go_at_call 91; refine (HS1.out _ (by (have hbq := (Below.refl w.heap.size w); have hbz := hbq.size; (repeat' (first | (with_reducible exact Below.refl _ _) | (with_reducible assumption) | (with_reducible refine Below.trans ?_ (Below.mono (by with_reducible assumption) ?_)) | (with_reducible refine Below.alloc ?_ ?_ _) | (with_reducible refine Below.setCell ?_ ?_ _) | (with_reducible refine below_drewN ?_ _) | (with_reducible refine Below.drew ?_) | go_size))))).mono ?_; rintro e w' ⟨rfl, rfl⟩))
    all_goals (go_wp2_with fail; go_meet; refine ⟨rfl, ?_⟩; (have hbq := (Below.refl w.heap.size w); have hbz := hbq.size; (repeat' (first | (with_reducible exact Below.refl _ _) | (with_reducible assumption) | (with_reducible refine Below.trans ?_ (Below.mono (by with_reducible assumption) ?_)) | (with_reducible refine Below.alloc ?_ ?_ _) | (with_reducible refine Below.setCell ?_ ?_ _) | (with_reducible refine below_drewN ?_ _) | (with_reducible refine Below.drew ?_) | go_size))))
  case rest =>
  obtain ⟨rfl, hBq⟩ := hcut
  have HBQ := Lib.hid hBq
  clear hBq
  go_wp2_with fail
  refine (HT2.out _ HBQ.out).mono ?_; rintro e w2 ⟨rfl, q2, hw2⟩
  have hb2 : Below w.heap.size w w2 := by rw [hw2]; exact below_drewN HBQ.out q2
  have HBW := Lib.hid hb2
  clear hb2 hw2 HBQ HT2
  go_upto_region 10 with fail
  refine wp_region_held_drew (S := (fun w' => Below w.heap.size w w')) (by kernel_rfl) ?_ (fun hHeld => ?_)
  · exact HBW.out.drew
  refine wpAnyH_take (i := 0) (v := ?_) rfl (by kernel_rfl) (by kernel_rfl) (by kernel_rfl) (fun _ _ _ h => h) (Or.inl ⟨by rfl, ?_⟩) (by assumption) ?_
  rotate_left
  · intro w' hSw; (try dsimp only at hSw); go_simp; (try with_reducible rfl)
  (try simp only [Act.put, List.setIfInBounds_toArray, List.set_cons_zero, List.set_cons_succ, List.getElem_toArray, List.getElem_cons_succ, List.getElem_cons_zero])
  refine wpAnyH_take (i := 1) (v := ?_) rfl (by kernel_rfl) (by kernel_rfl) (by kernel_rfl) (fun _ _ _ h => h) (Or.inl ⟨by rfl, ?_⟩) (by assumption) ?_
  rotate_left
  · intro w' hSw; (try dsimp only at hSw); go_simp; (try with_reducible rfl)
  (try simp only [Act.put, List.setIfInBounds_toArray, List.set_cons_zero, List.set_cons_succ, List.getElem_toArray, List.getElem_cons_succ, List.getElem_cons_zero])
  refine wpAnyH_take (i := 2) (v := ?_) rfl (by kernel_rfl) (by kernel_rfl) (by kernel_rfl) (fun _ _ _ h => h) (Or.inl ⟨by rfl, ?_⟩) (by assumption) ?_
  rotate_left
  · intro w' hSw; (try dsimp only at hSw); go_simp; (try with_reducible rfl)
  (try simp only [Act.put, List.setIfInBounds_toArray, List.set_cons_zero, List.set_cons_succ, List.getElem_toArray, List.getElem_cons_succ, List.getElem_cons_zero])
  refine wpAnyH_take (i := 3) (v := ?_) rfl (by kernel_rfl) (by kernel_rfl) (by kernel_rfl) (fun _ _ _ h => h) (Or.inl ⟨by rfl, ?_⟩) (by assumption) ?_
  rotate_left
  · intro w' hSw; (try dsimp only at hSw); go_simp; (try with_reducible rfl)
  (try simp only [Act.put, List.setIfInBounds_toArray, List.set_cons_zero, List.set_cons_succ, List.getElem_toArray, List.getElem_cons_succ, List.getElem_cons_zero])
  refine wpAnyH_take (i := 5) (v := ?_) rfl (by kernel_rfl) (by kernel_rfl) (by kernel_rfl) (fun _ _ _ h => h) (Or.inl ⟨by rfl, ?_⟩) (by assumption) ?_
  rotate_left
  · intro w' hSw; (try dsimp only at hSw); go_simp; (try with_reducible rfl)
  (try simp only [Act.put, List.setIfInBounds_toArray, List.set_cons_zero, List.set_cons_succ, List.getElem_toArray, List.getElem_cons_succ, List.getElem_cons_zero])
  refine wpAnyH_take (i := 6) (v := ?_) rfl (by kernel_rfl) (by kernel_rfl) (by kernel_rfl) (fun _ _ _ h => h) (Or.inl ⟨by rfl, ?_⟩) (by assumption) ?_
  rotate_left
  · intro w' hSw; (try dsimp only at hSw); go_simp; (try with_reducible rfl)
  (try simp only [Act.put, List.setIfInBounds_toArray, List.set_cons_zero, List.set_cons_succ, List.getElem_toArray, List.getElem_cons_succ, List.getElem_cons_zero])
  refine wpAnyH_take (i := 7) (v := ?_) rfl (by kernel_rfl) (by kernel_rfl) (by kernel_rfl) (fun _ _ _ h => h) (Or.inl ⟨by rfl, ?_⟩) (by assumption) ?_
  rotate_left
  · intro w' hSw; (try dsimp only at hSw); go_simp; (try with_reducible rfl)
  (try simp only [Act.put, List.setIfInBounds_toArray, List.set_cons_zero, List.set_cons_succ, List.getElem_toArray, List.getElem_cons_succ, List.getElem_cons_zero])
  refine wpAnyH_take (i := 8) (v := ?_) rfl (by kernel_rfl) (by kernel_rfl) (by kernel_rfl) (fun _ _ _ h => h) (Or.inl ⟨by rfl, ?_⟩) (by assumption) ?_
  rotate_left
  · intro w' hSw; (try dsimp only at hSw); go_simp; (try with_reducible rfl)
  (try simp only [Act.put, List.setIfInBounds_toArray, List.set_cons_zero, List.set_cons_succ, List.getElem_toArray, List.getElem_cons_succ, List.getElem_cons_zero])
  refine wpAnyH_ready (rs := [4]) (by kernel_rfl) (by simp) ?_
  refine AllReadyH.cons rfl (fun K hK => ?_) AllReadyH.nil
  go_simp
  (go_at_call 98; refine (HT3.out _ hHeld).mono ?_; rintro e w5 ⟨rfl, q5, hw5⟩; have HB5 : Hid (Below w.heap.size w w5) := Lib.hid (by rw [hw5]; exact below_drewN hHeld q5); clear hw5)
  (try dsimp only)
  refine hK.out _ _ ?_ (fun hHeld => ?_)
  · exact HB5.out
  clear hK K
  (try simp only [Act.put, List.setIfInBounds_toArray, List.set_cons_zero, List.set_cons_succ, List.getElem_toArray, List.getElem_cons_succ, List.getElem_cons_zero])
  refine wpAnyH_ready (rs := [9]) (by kernel_rfl) (by simp) ?_
  refine AllReadyH.cons rfl (fun K hK => ?_) AllReadyH.nil
  go_simp
  (go_at_call 91; refine (HS3.out _ hHeld).mono ?_; rintro e w6 ⟨rfl, rfl⟩)
  (try dsimp only)
  refine hK.out _ _ ?_ (fun hHeld => ?_)
  · exact hHeld
  clear hK K
  (try simp only [Act.put, List.setIfInBounds_toArray, List.set_cons_zero, List.set_cons_succ, List.getElem_toArray, List.getElem_cons_succ, List.getElem_cons_zero])
  refine wpAnyH_take (i := 10) (v := ?_) rfl (by kernel_rfl) (by kernel_rfl) (by kernel_rfl) (fun _ _ _ h => h) (Or.inl ⟨by rfl, ?_⟩) (by assumption) ?_
  rotate_left
  · intro w' hSw; (try dsimp only at hSw); go_simp; (try with_reducible rfl)
  (try simp only [Act.put, List.setIfInBounds_toArray, List.set_cons_zero, List.set_cons_succ, List.getElem_toArray, List.getElem_cons_succ, List.getElem_cons_zero])
  refine wpAnyH_done (by kernel_rfl) ?_ _
  have hBq := hHeld
  clear hHeld
  go_wp2
  go_ret3
  exact ⟨⟨rfl, HE.out⟩, hBq⟩
set_option maxRecDepth 100000 in
set_option maxHeartbeats 4000000 in
theorem rfr_dec_yes (A : Option Addr) (l : List Int) (c : Nat) (w : World) (hby : ByL w A l) (hb : isBy l) (hl : l.length ≤ 1000000) (hc : l.length ≤ c) (hcm : c ≤ maxLen) (h8 : ¬ l.length < 8) (hs : dec4 (l.drop 4) = sumL (l.take 4)) (hlong : ¬ 262144 < dec4 l) (hcut : ¬ l.length < 12 + dec4 l) (hs2 : dec4 (l.drop (8 + dec4 l)) = sumL (l.take (8 + dec4 l))) :
    Calls Tryd.prog 65 #[.slice A l.length c] w fun e w' => ((∃ g cap, e = .returned (.tuple #[.slice (some ⟨g, 0, none⟩) (frP l).length cap, .int .i64 (12 + dec4 l : Nat), .int .i64 0]) ∧ Own8 w.heap.size w' (.slice (some ⟨g, 0, none⟩) (frP l).length cap) (frP l)) ∧ frC l = 0) ∧ Below w.heap.size w w' := by
  have HS2 := Lib.hid hs2
  clear hs2
  obtain ⟨B, O, rfl, hBl, _⟩ := hby (by omega)
  have HBY := Lib.hid (fun (W : World) (k : Below w.heap.size w W) => hby.below k)
  have hli : (l.length : Int) ≤ 1000000 := by omega
  have h8i : ¬ (l.length : Int) < 8 := by omega
  have h8n : ¬ l.length < 8 := by omega
  have hci : (l.length : Int) ≤ (c : Int) := by omega
  have hc4 : (4 : Int) ≤ (c : Int) := by omega
  have hl4 : (4 : Int) ≤ (l.length : Int) := by omega
  have hc8 : (8 : Int) ≤ (c : Int) := by omega
  have cn4 : ¬ c = 4 := by omega
  have cn0 : ¬ c = 0 := by omega
  have hcmi : (c : Int) ≤ 9223372036854775807 := by unfold maxLen at hcm; omega
  have HT1 : Hid (∀ W, Below w.heap.size w W → Calls Tryd.prog 98 #[.slice (some ⟨B, O + 4, none⟩) (l.length - 4) (c - 4)] W fun e w' => e = .returned (.int .u32 (dec4 (l.drop 4) : Nat)) ∧ ∃ q, w' = W.drewN q) := Lib.hid (fun W k => by
    have h := ref_fromfour (some ⟨B, O + 4, none⟩) (l.drop 4) (c - 4) W ((HBY.out W k).drop 4) (isBy_drop hb 4) (by rw [List.length_drop]; omega)
    rwa [List.length_drop] at h)
  have HS1 : Hid (∀ (W : World), Below w.heap.size w W → Calls Tryd.prog 91 #[.slice (some ⟨B, O, none⟩) 4 c] W fun e w' => e = .returned (.int .u32 (sumL (l.take 4) : Nat)) ∧ W = w') := Lib.hid (fun W k => by
    have h4 : (l.take 4).length = 4 := by rw [List.length_take]; omega
    have h := ref_sum c (some ⟨B, O, none⟩) (l.take 4) W ((HBY.out W k).take 4) (isBy_take hb 4) (by omega)
    rwa [h4] at h)
  have t1 : ((dec4 (l.drop 4) : Int) != (sumL (l.take 4) : Int)) = false := by rw [hs]; simp
  have t1' : (dec4 (l.drop 4) != sumL (l.take 4)) = false := by rw [hs]; simp
  have HT2 : Hid (∀ W, Below w.heap.size w W → Calls Tryd.prog 98 #[.slice (some ⟨B, O, none⟩) l.length c] W fun e w' => e = .returned (.int .u32 (dec4 l : Nat)) ∧ ∃ q, w' = W.drewN q) := Lib.hid (fun W k => ref_fromfour (some ⟨B, O, none⟩) l c W (HBY.out W k) hb (by omega))
  have hn32 := dec4_lt hb
  have hnw : IntKind.i64.wrap (dec4 l : Int) = (dec4 l : Int) := IntWalk.i64_in _ (by omega)
  have t2 : decide ((262144 : Int) < (dec4 l : Int)) = false := by simp; omega
  obtain ⟨m, hm⟩ : ∃ m, 8 + dec4 l = m := ⟨_, rfl⟩
  have hmi : (8 : Int) + (dec4 l : Int) = (m : Int) := by omega
  have hm2 : (m : Int) ≤ 262152 := by omega
  have hwm : IntKind.i64.wrap (m : Int) = (m : Int) := IntWalk.i64_in _ (by omega)
  have hwm4 : IntKind.i64.wrap ((m : Int) + 4) = (m : Int) + 4 := IntWalk.i64_in _ (by omega)
  have hm12 : (12 : Int) + (dec4 l : Int) = (m : Int) + 4 := by omega
  have t3 : ¬ (l.length : Int) < (m : Int) + 4 := by omega
  have t3' : ¬ l.length < m + 4 := by omega
  have hmc : (m : Int) ≤ (c : Int) := by omega
  have hml : (m : Int) ≤ (l.length : Int) := by omega
  have hm8 : (8 : Int) ≤ (m : Int) := by omega
  have cnm : ¬ c = m := by omega
  have cn8 : ¬ c = 8 := by omega
  have HT3 : Hid (∀ W, Below w.heap.size w W → Calls Tryd.prog 98 #[.slice (some ⟨B, O + m, none⟩) (l.length - m) (c - m)] W fun e w' => e = .returned (.int .u32 (dec4 (l.drop (8 + dec4 l)) : Nat)) ∧ ∃ q, w' = W.drewN q) := Lib.hid (fun W k => by
    rw [hm]
    have h := ref_fromfour (some ⟨B, O + m, none⟩) (l.drop m) (c - m) W ((HBY.out W k).drop m) (isBy_drop hb m) (by rw [List.length_drop]; omega)
    rwa [List.length_drop] at h)
  have HS3 : Hid (∀ (W : World), Below w.heap.size w W → Calls Tryd.prog 91 #[.slice (some ⟨B, O, none⟩) m c] W fun e w' => e = .returned (.int .u32 (sumL (l.take (8 + dec4 l)) : Nat)) ∧ W = w') := Lib.hid (fun W k => by
    rw [hm]
    have h4 : (l.take m).length = m := by rw [List.length_take]; omega
    have h := ref_sum c (some ⟨B, O, none⟩) (l.take m) W ((HBY.out W k).take m) (isBy_take hb m) (by omega)
    rwa [h4] at h)
  have HE := Lib.hid (frC_yes (by omega) hs hlong hcut HS2.out)
  have t4 : ((dec4 (l.drop (8 + dec4 l)) : Int) != (sumL (l.take (8 + dec4 l)) : Int)) = false := by rw [HS2.out]; simp
  have t4' : (dec4 (l.drop (8 + dec4 l)) != sumL (l.take (8 + dec4 l))) = false := by rw [HS2.out]; simp
  have hpl := frP_len hm hcut
  have HPL := Lib.hid hpl
  have HNM := Lib.hid hm
  have HP8 := Lib.hid (fun (W : World) (k : Below w.heap.size w W) => (HBY.out W k).frP)
  clear hby hb hl hc hcm h8 hs HS2 hlong hcut hn32 hm hpl
  generalize dec4 (l.drop 4) = d4 at *
  generalize sumL (l.take 4) = s4 at *
  generalize dec4 (l.drop (8 + dec4 l)) = d8 at *
  generalize sumL (l.take (8 + dec4 l)) = s8 at *
  generalize dec4 l = n at *
  go_enter Tryd.func65, Tryd.ntmps65
  go_upto_region 3 with fail
  go_cut [15] (fun s wx => s = .bool false ∧ Below w.heap.size w wx)
  case first =>
    go_region_with (first | (go_at_call 98; refine (HT1.out _ (by (have hbq := (Below.refl w.heap.size w); have hbz := hbq.size; (repeat' (first | (with_reducible exact Below.refl _ _) | (with_reducible assumption) | (with_reducible refine Below.trans ?_ (Below.mono (by with_reducible assumption) ?_)) | (with_reducible refine Below.alloc ?_ ?_ _) | (with_reducible refine Below.setCell ?_ ?_ _) | (with_reducible refine below_drewN ?_ _) | (with_reducible refine Below.drew ?_) | go_size))))).mono ?_; rintro e w' ⟨rfl, q, rfl⟩) | (go_at_call 91; refine (HS1.out _ (by (have hbq := (Below.refl w.heap.size w); have hbz := hbq.size; (repeat' (first | (with_reducible exact Below.refl _ _) | (with_reducible assumption) | (with_reducible refine Below.trans ?_ (Below.mono (by with_reducible assumption) ?_)) | (with_reducible refine Below.alloc ?_ ?_ _) | (with_reducible refine Below.setCell ?_ ?_ _) | (with_reducible refine below_drewN ?_ _) | (with_reducible refine Below.drew ?_) | go_size))))).mono ?_; rintro e w' ⟨rfl, rfl⟩))
    all_goals (go_wp2_with fail; go_meet; refine ⟨rfl, ?_⟩; (have hbq := (Below.refl w.heap.size w); have hbz := hbq.size; (repeat' (first | (with_reducible exact Below.refl _ _) | (with_reducible assumption) | (with_reducible refine Below.trans ?_ (Below.mono (by with_reducible assumption) ?_)) | (with_reducible refine Below.alloc ?_ ?_ _) | (with_reducible refine Below.setCell ?_ ?_ _) | (with_reducible refine below_drewN ?_ _) | (with_reducible refine Below.drew ?_) | go_size))))
  case rest =>
  obtain ⟨rfl, hBq⟩ := hcut
  have HBQ := Lib.hid hBq
  clear hBq
  go_wp2_with fail
  refine (HT2.out _ HBQ.out).mono ?_; rintro e w2 ⟨rfl, q2, hw2⟩
  have hb2 : Below w.heap.size w w2 := by rw [hw2]; exact below_drewN HBQ.out q2
  have HBW := Lib.hid hb2
  clear hb2 hw2 HBQ HT2
  go_upto_region 10 with fail
  refine wp_region_held_drew (S := (fun w' => Below w.heap.size w w')) (by kernel_rfl) ?_ (fun hHeld => ?_)
  · exact HBW.out.drew
  refine wpAnyH_take (i := 0) (v := ?_) rfl (by kernel_rfl) (by kernel_rfl) (by kernel_rfl) (fun _ _ _ h => h) (Or.inl ⟨by rfl, ?_⟩) (by assumption) ?_
  rotate_left
  · intro w' hSw; (try dsimp only at hSw); go_simp; (try with_reducible rfl)
  (try simp only [Act.put, List.setIfInBounds_toArray, List.set_cons_zero, List.set_cons_succ, List.getElem_toArray, List.getElem_cons_succ, List.getElem_cons_zero])
  refine wpAnyH_take (i := 1) (v := ?_) rfl (by kernel_rfl) (by kernel_rfl) (by kernel_rfl) (fun _ _ _ h => h) (Or.inl ⟨by rfl, ?_⟩) (by assumption) ?_
  rotate_left
  · intro w' hSw; (try dsimp only at hSw); go_simp; (try with_reducible rfl)
  (try simp only [Act.put, List.setIfInBounds_toArray, List.set_cons_zero, List.set_cons_succ, List.getElem_toArray, List.getElem_cons_succ, List.getElem_cons_zero])
  refine wpAnyH_take (i := 2) (v := ?_) rfl (by kernel_rfl) (by kernel_rfl) (by kernel_rfl) (fun _ _ _ h => h) (Or.inl ⟨by rfl, ?_⟩) (by assumption) ?_
  rotate_left
  · intro w' hSw; (try dsimp only at hSw); go_simp; (try with_reducible rfl)
  (try simp only [Act.put, List.setIfInBounds_toArray, List.set_cons_zero, List.set_cons_succ, List.getElem_toArray, List.getElem_cons_succ, List.getElem_cons_zero])
  refine wpAnyH_take (i := 3) (v := ?_) rfl (by kernel_rfl) (by kernel_rfl) (by kernel_rfl) (fun _ _ _ h => h) (Or.inl ⟨by rfl, ?_⟩) (by assumption) ?_
  rotate_left
  · intro w' hSw; (try dsimp only at hSw); go_simp; (try with_reducible rfl)
  (try simp only [Act.put, List.setIfInBounds_toArray, List.set_cons_zero, List.set_cons_succ, List.getElem_toArray, List.getElem_cons_succ, List.getElem_cons_zero])
  refine wpAnyH_take (i := 5) (v := ?_) rfl (by kernel_rfl) (by kernel_rfl) (by kernel_rfl) (fun _ _ _ h => h) (Or.inl ⟨by rfl, ?_⟩) (by assumption) ?_
  rotate_left
  · intro w' hSw; (try dsimp only at hSw); go_simp; (try with_reducible rfl)
  (try simp only [Act.put, List.setIfInBounds_toArray, List.set_cons_zero, List.set_cons_succ, List.getElem_toArray, List.getElem_cons_succ, List.getElem_cons_zero])
  refine wpAnyH_take (i := 6) (v := ?_) rfl (by kernel_rfl) (by kernel_rfl) (by kernel_rfl) (fun _ _ _ h => h) (Or.inl ⟨by rfl, ?_⟩) (by assumption) ?_
  rotate_left
  · intro w' hSw; (try dsimp only at hSw); go_simp; (try with_reducible rfl)
  (try simp only [Act.put, List.setIfInBounds_toArray, List.set_cons_zero, List.set_cons_succ, List.getElem_toArray, List.getElem_cons_succ, List.getElem_cons_zero])
  refine wpAnyH_take (i := 7) (v := ?_) rfl (by kernel_rfl) (by kernel_rfl) (by kernel_rfl) (fun _ _ _ h => h) (Or.inl ⟨by rfl, ?_⟩) (by assumption) ?_
  rotate_left
  · intro w' hSw; (try dsimp only at hSw); go_simp; (try with_reducible rfl)
  (try simp only [Act.put, List.setIfInBounds_toArray, List.set_cons_zero, List.set_cons_succ, List.getElem_toArray, List.getElem_cons_succ, List.getElem_cons_zero])
  refine wpAnyH_take (i := 8) (v := ?_) rfl (by kernel_rfl) (by kernel_rfl) (by kernel_rfl) (fun _ _ _ h => h) (Or.inl ⟨by rfl, ?_⟩) (by assumption) ?_
  rotate_left
  · intro w' hSw; (try dsimp only at hSw); go_simp; (try with_reducible rfl)
  (try simp only [Act.put, List.setIfInBounds_toArray, List.set_cons_zero, List.set_cons_succ, List.getElem_toArray, List.getElem_cons_succ, List.getElem_cons_zero])
  refine wpAnyH_ready (rs := [4]) (by kernel_rfl) (by simp) ?_
  refine AllReadyH.cons rfl (fun K hK => ?_) AllReadyH.nil
  go_simp
  (go_at_call 98; refine (HT3.out _ hHeld).mono ?_; rintro e w5 ⟨rfl, q5, hw5⟩; have HB5 : Hid (Below w.heap.size w w5) := Lib.hid (by rw [hw5]; exact below_drewN hHeld q5); clear hw5)
  (try dsimp only)
  refine hK.out _ _ ?_ (fun hHeld => ?_)
  · exact HB5.out
  clear hK K
  (try simp only [Act.put, List.setIfInBounds_toArray, List.set_cons_zero, List.set_cons_succ, List.getElem_toArray, List.getElem_cons_succ, List.getElem_cons_zero])
  refine wpAnyH_ready (rs := [9]) (by kernel_rfl) (by simp) ?_
  refine AllReadyH.cons rfl (fun K hK => ?_) AllReadyH.nil
  go_simp
  (go_at_call 91; refine (HS3.out _ hHeld).mono ?_; rintro e w6 ⟨rfl, rfl⟩)
  (try dsimp only)
  refine hK.out _ _ ?_ (fun hHeld => ?_)
  · exact hHeld
  clear hK K
  (try simp only [Act.put, List.setIfInBounds_toArray, List.set_cons_zero, List.set_cons_succ, List.getElem_toArray, List.getElem_cons_succ, List.getElem_cons_zero])
  refine wpAnyH_take (i := 10) (v := ?_) rfl (by kernel_rfl) (by kernel_rfl) (by kernel_rfl) (fun _ _ _ h => h) (Or.inl ⟨by rfl, ?_⟩) (by assumption) ?_
  rotate_left
  · intro w' hSw; (try dsimp only at hSw); go_simp; (try with_reducible rfl)
  (try simp only [Act.put, List.setIfInBounds_toArray, List.set_cons_zero, List.set_cons_succ, List.getElem_toArray, List.getElem_cons_succ, List.getElem_cons_zero])
  refine wpAnyH_done (by kernel_rfl) ?_ _
  have hBq := hHeld
  clear hHeld
  have HBX := Lib.hid hBq
  have hbz := hBq.size
  clear hBq
  have hmade := fun (W : World) (k : w.heap.size ≤ W.heap.size) => World.ownsRow_made (base := w.heap.size) (e := 5) (size := 1) W #[] 0 k (Nat.zero_le _) rfl
  have HMADE := Lib.hid hmade
  clear hmade
  have HM12 : Hid (((12 + n : Nat) : Int) = (m : Int) + 4) := Lib.hid (by have := HNM.out; omega)
  by_cases h0m : m = 8
  · have HFP : Hid (frP l = []) := Lib.hid (List.length_eq_zero_iff.1 (by rw [HPL.out]; omega))
    have HN0 : Hid (n = 0) := Lib.hid (by have := HNM.out; omega)
    subst h0m
    have hld := empty_loads.1
    have hst := empty_loads.2
    have HR0 := Lib.hid (HMADE.out _ hbz)
    have HB0 := Lib.hid (HBX.out.alloc HBX.out.size (.cells #[] 5))
    go_wp2
    go_ret3
    rw [HFP.out]
    refine ⟨⟨⟨_, _, by rw [HN0.out]; rfl, HR0.out⟩, HE.out⟩, HB0.out⟩
  · have hq0 : 0 < m - 8 := by omega
    have hm8n : 8 < m := by omega
    have HK := Lib.hid (HBX.out.alloc HBX.out.size (.cells #[] 5))
    have hrow := HMADE.out w5 hbz
    have hsrc := (HP8.out _ HK.out).cells
    have hmi8 : (m : Int) - 8 ≤ 262144 := by omega
    obtain ⟨i0, hi0, hz0, hz1, hz2⟩ := info_parts u8_info
    go_wp2_with (at_builtin; refine wpList_append_lies _ rfl (.tmp 37) (.tmp 41) _ rfl w.heap.size 5 i0 _ 1 1 Tryd.underlying28 hi0 hz0 hz1 hz2 rfl (by decide) (.slice (some ⟨w5.heap.size, 0, none⟩) 0 0) 0 [] rfl hrow ⟨B, O + 8, none⟩ (m - 8) (c - 8) (bC (frP l)) rfl (by rw [bC_len, HPL.out]; omega) hsrc (bC_one _) (by omega) (by unfold maxLen; omega) (by first | omega | (simp; omega)) (by first | omega | (simp; omega)) _ rfl ?_; intro g cap w4 hown0 hg4 hat4 hlt4; clear hsrc; have HR4 : Hid (w4.ownsRow w.heap.size 5 1 (.slice (some ⟨g, 0, none⟩) (m - 8) cap) (m - 8) (bC (frP l))) := Lib.hid (by rw [Nat.zero_add, List.nil_append] at hown0; exact hown0); have HB4 := Lib.hid (HK.out.grown hg4 HK.out.size (fun k hk => (World.ownsRow.lt hrow k hk).1)); clear hown0 hg4 hat4 hlt4 hrow)
    go_ret3
    refine ⟨⟨⟨g, cap, by rw [HM12.out, HPL.out]; rfl, by have := HR4.out; rw [← HPL.out] at this; exact this⟩, HE.out⟩, HB4.out⟩
theorem rfr_dec_short (A : Option Addr) (n c : Nat) (w : World) (h : n < 8) :
    Calls Tryd.prog 65 #[.slice A n c] w fun e w' => e = .returned (.tuple #[.slice none 0 0, .int .i64 0, .int .i64 2]) ∧ Below w.heap.size w w' := by
  have h8i : (n : Int) < 8 := by omega
  go_enter Tryd.func65, Tryd.ntmps65
  go_wp2
  go_ret3
  exact ⟨rfl, Below.refl _ _⟩
theorem rfr_decode (A : Option Addr) (l : List Int) (c : Nat) (w : World) (hby : ByL w A l) (hb : isBy l) (hl : l.length ≤ 1000000) (hc : l.length ≤ c) (hcm : c ≤ maxLen) :
    Calls Tryd.prog 65 #[.slice A l.length c] w fun e w' => FrRes l w w' e ∧ Below w.heap.size w w' := by
  by_cases h8 : l.length < 8
  · exact (rfr_dec_short A l.length c w h8).mono fun e w' ⟨he, k⟩ => ⟨.inl ⟨by rw [frC_short h8]; decide, by rw [frC_short h8]; exact he⟩, k⟩
  by_cases hs : dec4 (l.drop 4) = sumL (l.take 4)
  rotate_left
  · exact (rfr_dec_hsum A l c w hby hb hl hc hcm h8 hs).mono fun e w' ⟨⟨he, hC⟩, k⟩ => ⟨.inl ⟨by rw [hC]; decide, by rw [hC]; exact he⟩, k⟩
  by_cases hlong : 262144 < dec4 l
  · exact (rfr_dec_long A l c w hby hb hl hc hcm h8 hs hlong).mono fun e w' ⟨⟨he, hC⟩, k⟩ => ⟨.inl ⟨by rw [hC]; decide, by rw [hC]; exact he⟩, k⟩
  by_cases hcut : l.length < 12 + dec4 l
  · exact (rfr_dec_cut A l c w hby hb hl hc hcm h8 hs hlong hcut).mono fun e w' ⟨⟨he, hC⟩, k⟩ => ⟨.inl ⟨by rw [hC]; decide, by rw [hC]; exact he⟩, k⟩
  by_cases hs2 : dec4 (l.drop (8 + dec4 l)) = sumL (l.take (8 + dec4 l))
  · exact (rfr_dec_yes A l c w hby hb hl hc hcm h8 hs hlong hcut hs2).mono fun e w' ⟨⟨he, hC⟩, k⟩ => ⟨.inr ⟨hC, he⟩, k⟩
  · exact (rfr_dec_bsum A l c w hby hb hl hc hcm h8 hs hlong hcut hs2).mono fun e w' ⟨⟨he, hC⟩, k⟩ => ⟨.inl ⟨by rw [hC]; decide, by rw [hC]; exact he⟩, k⟩
end Go.Proofs.YtdffldlcbihjmaaDoor

/- A row of the call's own whose cells are written one behind the other. -/
namespace Go.Proofs.YtdffldlcbihjmaaDoor
open Go.RowKit

theorem heap_setCell1 {w : World} {g o : Nat} {cur : Array Value} {t : TypeId} {fr : Nat × Nat} (h : w.heap[g]? = some (.cells cur t fr)) (u : Value) : (w.setCell ⟨g, o, none⟩ u).heap[g]? = some (.cells (cur.setIfInBounds o u) t fr) := by
  simp [World.setCell, Array.getElem?_modify, h]
theorem heap_setCells {g : Nat} {t : TypeId} {fr : Nat × Nat} : ∀ (us : List Value) (o : Nat) (w : World) (cur : Array Value), w.heap[g]? = some (.cells cur t fr) → ∃ cur', (w.setCells g o us).heap[g]? = some (.cells cur' t fr) ∧ cur'.size = cur.size
  | [], _, _, cur, h => ⟨cur, h, rfl⟩
  | u :: r, o, w, cur, h => by
    obtain ⟨c', h1, h2⟩ := heap_setCells r (o + 1) _ _ (heap_setCell1 h u)
    exact ⟨c', h1, by rw [h2]; simp⟩
theorem only_setCells {a : World} (g : Nat) : ∀ (us : List Value) (o : Nat) (w : World), Only g a w → Only g a (w.setCells g o us)
  | [], _, _, h => h
  | u :: r, o, w, h => only_setCells g r (o + 1) _ (h.setB u)
/-- A row out of its block and its cells. -/
theorem row_of_cells {w : World} {g cap n size : Nat} {e : TypeId} {cur : Array Value} {xs : List Value} (h : w.heap[g]? = some (.cells cur e (0, 0))) (h1 : cur.size = cap * size) (h2 : n ≤ cap) (h3 : cap ≤ maxLen) (h4 : xs.length = n * size)
    (h5 : ∀ j u, xs[j]? = some u → w.cell? ⟨g, j, none⟩ = some u) : w.ownsRow 0 e size (.slice (some ⟨g, 0, none⟩) n cap) n xs := by
  refine ⟨h4, .inr ⟨g, cap, cur, rfl, Nat.zero_le _, h, h2, h3, h1, ?_⟩⟩
  have hle : n * size ≤ cap * size := Nat.mul_le_mul_right _ h2
  apply List.ext_getElem?
  intro j
  rw [List.getElem?_take]
  by_cases hj : j < n * size
  · rw [if_pos hj, Array.getElem?_toList, ← cell_of_row w g j cur e (0, 0) h, List.getElem?_eq_getElem (by omega)]
    exact h5 j _ (List.getElem?_eq_getElem (by omega))
  · rw [if_neg hj, List.getElem?_eq_none (by omega)]
/-- What a row's block is. -/
theorem row_block {w : World} {base : Nat} {e : TypeId} {size : Nat} {g cap n : Nat} {xs : List Value} (k : w.ownsRow base e size (.slice (some ⟨g, 0, none⟩) n cap) n xs) : ∃ cur, w.heap[g]? = some (.cells cur e (0, 0)) ∧ cur.size = cap * size ∧ n ≤ cap ∧ cap ≤ maxLen ∧ xs.length = n * size := by
  rcases k.2 with ⟨h, _⟩ | ⟨g', cap', cur, h, _, hh, h1, h2, h3, _⟩
  · cases h
  · injection h with a1 a2 a3
    injection a1 with a1
    injection a1 with a1
    subst a1
    subst a3
    exact ⟨cur, hh, h3, h1, h2, k.1⟩
theorem row_there {w : World} {g cap : Nat} {e : TypeId} {size : Nat} {cur : Array Value} (h : w.heap[g]? = some (.cells cur e (0, 0))) (h1 : cur.size = cap * size) {j : Nat} (hj : j < cap * size) : (w.cell? ⟨g, j, none⟩).isSome = true ∧ w.frozen? ⟨g, j, none⟩ = false := by
  refine ⟨?_, by simp [World.frozen?, h]⟩
  rw [cell_of_row w g j cur e (0, 0) h, Array.getElem?_eq_getElem (by omega)]
  rfl
end Go.Proofs.YtdffldlcbihjmaaDoor

/- wire.Decode of a frame: what is told, of whatever kind. -/
namespace Go.Proofs.YtdffldlcbihjmaaDoor
open Go.RowKit Go.Sort

/-- A word is told, its records in a row of the call's own. -/
def WdTold (p : List Int) (w w' : World) (e : Ending) : Prop := ∃ (k o s m1 c1 m2 c2 : Int) (L : List Mr) (A : Option Addr) (c : Nat), decW p = some (wdOf k o s m1 c1 m2 c2 L) ∧ e = .returned (.tuple #[wdV k o s m1 c1 m2 c2 (.slice A L.length c), .int .i64 0]) ∧
  w'.ownsRow w.heap.size 89 9 (.slice A L.length c) L.length (rowM L) ∧ L.length ≤ 64 ∧ (∀ m ∈ L, m.At (fun i => w.heap.size ≤ i) w') ∧ (∀ m ∈ L, isBy m.r.key ∧ isBy m.r.val)
theorem told_none {p : List Int} {k o s m1 c1 m2 c2 : Int} {w w' : World} {e : Ending} (hd : decW p = some ⟨k, o, s, m1, c1, m2, c2, []⟩) (he : e = .returned (.tuple #[wdV k o s m1 c1 m2 c2 (.slice none 0 0), .int .i64 0])) : WdTold p w w' e :=
  ⟨k, o, s, m1, c1, m2, c2, [], none, 0, hd, he, World.ownsRow_nil _ _ _ _, by simp, (fun _ h => by cases h), (fun _ h => by cases h)⟩
theorem wd_dec_all (A : Option Addr) (l : List Int) (c : Nat) (w : World) (ht : Nib w) (hby : ByL w A l) (hb : isBy l) (hl : l.length ≤ 1000000) (hc : l.length ≤ c) (hcm : c ≤ maxLen) (hf : frO l = 0) (hp : (frP l).length ≤ 100000) :
    Calls Tryd.prog 18 #[.slice A l.length c] w fun e w' => ((decW (frP l) = none ∧ NoW 3 e) ∨ WdTold (frP l) w w' e) ∧ Below w.heap.size w w' := by
  by_cases h1 : (((numsR 3 (some (frP l))).1.getD 0 0 : Nat) : Int) = 1
  · refine (wd_dec_recs A l c w ht hby hb hl hc hcm hf hp h1).mono ?_
    rintro e w' ⟨h | ⟨k, o, s, L, A', c', q1, q2, q3, q4, q5, q6⟩, k'⟩
    · exact ⟨.inl h, k'⟩
    · exact ⟨.inr ⟨k, o, s, 0, 0, 0, 0, L, A', c', q1, q2, q3, q4, q5, q6⟩, k'⟩
  by_cases h3 : (((numsR 3 (some (frP l))).1.getD 0 0 : Nat) : Int) = 3
  · refine (wd_dec_beat A l c w ht hby hb hl hc hcm hf hp h3).mono ?_
    rintro e w' ⟨h | ⟨x, q1, q2⟩, k'⟩
    · exact ⟨.inl h, k'⟩
    · have q := decW_beat h3
      rw [q1] at q
      unfold chkW at q
      split at q
      · injection q with q
        subst q
        exact ⟨.inr (told_none q1 q2), k'⟩
      · cases q
  · refine (wd_dec_plain A l c w ht hby hb hl hc hcm hf hp h1 h3).mono ?_
    rintro e w' ⟨h | ⟨q1, q2⟩, k'⟩
    · exact ⟨.inl h, k'⟩
    · exact ⟨.inr (told_none q1 q2), k'⟩
end Go.Proofs.YtdffldlcbihjmaaDoor

