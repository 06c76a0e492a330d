/- An argument that is a record. -/
import Derived.Test.YtpflbhcgkndpcaaGreatDoorLaw
import Derived.Test.YtpflbhcgkndpcaaGreatDoorCards
import Derived.Test.YtpflbhcgkndpcaaGreatDoorTie
import Derived.Deep.DeepHandedRow
import Derived.Test.YtpflbhcgkndpcaaGreatDoorRec9
import Derived.Test.YtpflbhcgkndpcaaGreatDoorOctMem
import Derived.Deep.Fields
/- Stage 16: StoreOfNothing: the closed facts of its claim. -/
set_option linter.unusedSimpArgs false
set_option linter.unusedVariables false
namespace Go.Proofs.YtpflbhcgkndpcaaGreatDoor
open Go.ChangeShapes Go.WideShapes Go.ChangeAt Go.RowKit Go.Joins Go.Deep

set_option maxHeartbeats 40000000 in
theorem storeOfNothing_facts : joinedFacts Tryz.pinned.checked.prog 4 Tryz.f4 (OpenSpec.ofChange Rows.storeOfNothingSpec).bare Rows.storeOfNothingRow = true := by
  unfold joinedFacts
  simp only [Bool.and_eq_true]
  repeat' (refine And.intro ?_ ?_)
  all_goals (as_aux_lemma => kernel_rfl)
theorem storeOfNothing_inst : Tryz.f4.isInstance Tryz.pinned.checked.prog Rows.storeOfNothingRow.origin Rows.storeOfNothingRow.targs := of_decide_eq_true (by kernel_rfl)
theorem storeOfNothing_wrap : Tryz.f4.isWrapper Tryz.pinned.checked.prog Rows.storeOfNothingRow.wrapper Rows.storeOfNothingRow.mainSum := by unfold Func.isWrapper; first | (rw [if_pos (by decide +kernel)]; kernel_rfl) | (rw [if_neg (by decide +kernel)]; exact ⟨rfl, rfl⟩)
theorem storeOfNothing_named : Tryz.pinned.checked.prog.funcNamed Rows.storeOfNothingRow.func = some 4 := by kernel_rfl
end Go.Proofs.YtpflbhcgkndpcaaGreatDoor

/- An argument that is a record. -/
namespace Go.Proofs.YtpflbhcgkndpcaaGreatDoor
open Go.ChangeShapes Go.WideShapes Go.ChangeAt Go.RowKit Go.Joins Go.Deep

theorem weights_field {H : Type} {P : Program} {t : TypeId} {xs : List (DataW H)} {fs : Array Field} (hu : P.underlying t = some (.struct fs)) {i : Nat} {f : Field} (hf : fs[i]? = some f) {d : DataW H} (hd : xs[i]? = some d) : ∀ n ∈ d.weights P f.type, n ∈ (DataW.agg xs).weights P t := by
  intro n hn
  simp only [DataW.weights, hu]
  exact DataW.weights_mem_each (j := i) (t := f.type) (by simp; exact ⟨f, by simpa using hf, rfl⟩) hd n hn
theorem u8_cells' : Tryz.prog.cellsOf 5 = 1 := by kernel_rfl
theorem wf_u8' {x : Int} (h : (Lit.int .u8 x).wf = true) : 0 ≤ x ∧ x ≤ 255 := by
  simp [Lit.wf, IntKind.min, IntKind.max, IntKind.signed, IntKind.bits] at h
  omega
theorem cell_lt' {w : World} {B o : Nat} {v : Value} (h : w.cell? ⟨B, o, none⟩ = some v) : B < w.heap.size := by
  rcases Nat.lt_or_ge B w.heap.size with q | q
  · exact q
  · simp [World.cell?, Array.getElem?_eq_none q] at h
/-- A slice of bytes, as it is trod. -/
theorem open_bytes {H : Type} {enc : TypeId × Value → H} {w : World} {base : Nat} {sp : Nat → Bool} {fuel : Nat} {cs : List Value} {x : DataW H × List MemPlace} (hf : DataW.trod enc Tryz.prog w base sp true fuel 42 cs = some x) :
    ∃ (A : Option Addr) (l : List Int) (c : Nat), cs = [.slice A l.length c] ∧ l.length ≤ c ∧ c ≤ maxLen ∧ ByL w A l ∧ isBy l ∧ (A = none → l.length = 0) ∧ (∀ M, (∀ n ∈ x.1.weights Tryz.prog 42, n ≤ M) → l.length ≤ M) := by
  rcases open_ints Tryz.underlying42 Tryz.underlying5 u8_cells' hf with ⟨hcs, hx⟩ | ⟨a, len, cap, zs, hcs, _, hl, hm, hz, hx, hcell, hwz⟩
  · exact ⟨none, [], 0, hcs, by simp, by unfold maxLen; omega, ByL.nil _ _, isBy_nil, fun _ => rfl, fun M _ => by simp⟩
  · have hlz : len ≤ zs.length := by rw [hz]; split <;> omega
    have hle : (zs.take len).length = len := by rw [List.length_take]; omega
    refine ⟨some a, zs.take len, cap, by rw [hle]; exact hcs, by omega, by omega, fun h0 => ?_, fun b hb => ?_, (fun e => by cases e), fun M hM => ?_⟩
    · rw [hle] at h0
      obtain ⟨B, O, spot⟩ := a
      have hspot : spot = none := by simpa [Addr.add] using World.cell?_spot (hcell 0 (by omega))
      subst hspot
      have hc : ∀ j, j < len → w.cell? ⟨B, O + j, none⟩ = some (.int .u8 (zs.getD j 0)) := fun j hj => by rw [← add_plain]; exact hcell j (by omega)
      refine ⟨B, O, rfl, cell_lt' (hc 0 h0), fun j u hu => ?_⟩
      obtain ⟨q, rfl⟩ := bC_some hu
      rw [hle] at q
      rw [hc j q, List.getD_eq_getElem?_getD, List.getElem?_eq_getElem (by omega), List.getElem_take]
      rfl
    · exact wf_u8' (hwz b (List.mem_of_mem_take hb))
    · rw [hle]
      have := hM ((len + (zs.length - len)) * Tryz.prog.bytesOf 5) ?_
      · have hb1 : Tryz.prog.bytesOf 5 = 1 := by kernel_rfl
        rw [hb1] at this
        omega
      · rw [hx]
        simp [DataW.weights, Tryz.underlying42, lits]
        rw [show min len zs.length = len from by omega]
        exact Or.inl rfl
theorem rec_cells : Tryz.prog.cellsOf 46 = 9 := by kernel_rfl
theorem ver_cells : Tryz.prog.cellsOf 44 = 6 := by kernel_rfl
theorem stamp_cells : Tryz.prog.cellsOf 25 = 2 := by kernel_rfl
theorem one_cell {cs : List Value} {v : Value} (h : cs = [v]) : cs = [v] := h
set_option maxRecDepth 100000 in
/-- What a version's six cells read as. -/
theorem open_ver {H : Type} {enc : TypeId × Value → H} {w : World} {base : Nat} {sp : Nat → Bool} {fuel : Nat} {c0 c1 c2 c3 c4 c5 : Value} {x : DataW H × List MemPlace} (hf : DataW.trod enc Tryz.prog w base sp true fuel 44 [c0, c1, c2, c3, c4, c5] = some x) :
    ∃ (ml ct vo : Int) (A : Option Addr) (l : List Int) (c : Nat) (gone : Bool) (tt : Int), [c0, c1, c2, c3, c4, c5] = [.int .i64 ml, .int .i64 ct, .int .i64 vo, .slice A l.length c, .bool gone, .int .i64 tt] ∧ l.length ≤ c ∧ c ≤ maxLen ∧ ByL w A l ∧ isBy l ∧ (A = none → l.length = 0) ∧
      ((Lit.int .i64 ml).wf = true ∧ (Lit.int .i64 ct).wf = true ∧ (Lit.int .i64 vo).wf = true ∧ (Lit.int .i64 tt).wf = true) ∧ (∀ M, (∀ n ∈ x.1.weights Tryz.prog 44, n ≤ M) → l.length ≤ M) := by
  obtain ⟨xs, n, _, hx, _, hlen, hg⟩ := DataW.trod_struct Tryz.underlying44 hf
  have hlen' : xs.length = 5 := hlen
  have g0 := hg 0 _ rfl
  have g1 := hg 1 _ rfl
  have g2 := hg 2 _ rfl
  have g3 := hg 3 _ rfl
  have g4 := hg 4 _ rfl
  rw [List.getElem?_eq_getElem (by omega)] at g0 g1 g2 g3 g4
  have k0 : DataW.trod enc Tryz.prog w base sp true n 25 [c0, c1] = some xs[0] := g0
  have k1 : DataW.trod enc Tryz.prog w base sp true n 3 [c2] = some xs[1] := g1
  have k2 : DataW.trod enc Tryz.prog w base sp true n 42 [c3] = some xs[2] := g2
  have k3 : DataW.trod enc Tryz.prog w base sp true n 4 [c4] = some xs[3] := g3
  have k4 : DataW.trod enc Tryz.prog w base sp true n 3 [c5] = some xs[4] := g4
  obtain ⟨ys, m, _, hy, _, hlen2, hg2⟩ := DataW.trod_struct Tryz.underlying25 k0
  have hlen2' : ys.length = 2 := hlen2
  have j0 := hg2 0 _ rfl
  have j1 := hg2 1 _ rfl
  rw [List.getElem?_eq_getElem (by omega)] at j0 j1
  have i0 : DataW.trod enc Tryz.prog w base sp true m 3 [c0] = some ys[0] := j0
  have i1 : DataW.trod enc Tryz.prog w base sp true m 3 [c1] = some ys[1] := j1
  obtain ⟨ml, e0, _, w0⟩ := DataW.trod_int Tryz.underlying3 i0
  obtain ⟨ct, e1, _, w1⟩ := DataW.trod_int Tryz.underlying3 i1
  obtain ⟨vo, e2, _, w2⟩ := DataW.trod_int Tryz.underlying3 k1
  obtain ⟨A, l, c, e3, hl, hm, hby, hb, hn, hw⟩ := open_bytes k2
  obtain ⟨gone, e4, _⟩ := DataW.trod_bool Tryz.underlying4 k3
  obtain ⟨tt, e5, _, w5⟩ := DataW.trod_int Tryz.underlying3 k4
  simp only [List.cons.injEq, and_true] at e0 e1 e2 e3 e4 e5
  subst e0 e1 e2 e3 e4 e5
  refine ⟨ml, ct, vo, A, l, c, gone, tt, rfl, hl, hm, hby, hb, hn, ⟨w0, w1, w2, w5⟩, fun M hM => hw M (fun q hq => hM q ?_)⟩
  rw [hx]
  exact weights_field (i := 2) Tryz.underlying44 rfl (by simp only [List.getElem?_map]; rw [List.getElem?_eq_getElem (by omega)]; rfl) q hq
set_option maxRecDepth 100000 in
theorem open_record {H : Type} {enc : TypeId × Value → H} {w : World} {base b0 : Nat} {r : Reach} {sp : Nat → Bool} {v : Value} {d : DataW H} {p : List MemPlace} (hv : Value.okWide Tryz.prog w r b0 46 v) (h : DataW.Trod enc Tryz.prog w base sp true 46 v d p) :
    ∃ (o s : Int) (key : ByteArray) (ml ct vo : Int) (A : Option Addr) (l : List Int) (c : Nat) (gone : Bool) (tt : Int), v = recV o s key ml ct vo A l.length c gone tt ∧ l.length ≤ c ∧ c ≤ maxLen ∧ ByL w A l ∧ isBy l ∧ (A = none → l.length = 0) ∧
      (∀ M, (∀ n ∈ d.weights Tryz.prog 46, n ≤ M) → l.length ≤ M ∧ key.size ≤ M) := by
  obtain ⟨cs, rfl, hsz⟩ := okWide_struct Tryz.underlying46 hv
  rw [rec_cells] at hsz
  obtain ⟨ls⟩ := cs
  match ls, hsz with
  | [c0, c1, c2, c3, c4, c5, c6, c7, c8], _ =>
    obtain ⟨fuel, hf⟩ := h
    have e : (Value.agg #[c0, c1, c2, c3, c4, c5, c6, c7, c8]).cells.toList = [c0, c1, c2, c3, c4, c5, c6, c7, c8] := by simp [Value.cells]
    rw [e] at hf
    obtain ⟨xs, n, _, hx, _, hlen, hg⟩ := DataW.trod_struct Tryz.underlying46 hf
    have hlen' : xs.length = 4 := hlen
    have g0 := hg 0 _ rfl
    have g1 := hg 1 _ rfl
    have g2 := hg 2 _ rfl
    have g3 := hg 3 _ rfl
    rw [List.getElem?_eq_getElem (by omega)] at g0 g1 g2 g3
    have k0 : DataW.trod enc Tryz.prog w base sp true n 3 [c0] = some xs[0] := g0
    have k1 : DataW.trod enc Tryz.prog w base sp true n 3 [c1] = some xs[1] := g1
    have k2 : DataW.trod enc Tryz.prog w base sp true n 9 [c2] = some xs[2] := g2
    have k3 : DataW.trod enc Tryz.prog w base sp true n 44 [c3, c4, c5, c6, c7, c8] = some xs[3] := g3
    obtain ⟨o, e0, _, w0⟩ := DataW.trod_int Tryz.underlying3 k0
    obtain ⟨s, e1, _, w1⟩ := DataW.trod_int Tryz.underlying3 k1
    obtain ⟨key, e2, hk, _⟩ := DataW.trod_string Tryz.underlying9 k2
    obtain ⟨ml, ct, vo, A, l, c, gone, tt, e3, hl, hm, hby, hb, hn, _, hw⟩ := open_ver k3
    simp only [List.cons.injEq, and_true] at e0 e1 e2 e3
    obtain ⟨rfl, rfl, rfl, rfl, rfl, rfl⟩ := e3
    subst e0 e1 e2
    injection hx with hx1 hx2
    refine ⟨o, s, key, ml, ct, vo, A, l, c, gone, tt, rfl, hl, hm, hby, hb, hn, fun M hM => ⟨hw M (fun q hq => hM q ?_), hM key.size ?_⟩⟩
    · rw [hx1]
      exact weights_field (i := 3) Tryz.underlying46 rfl (by simp only [List.getElem?_map]; rw [List.getElem?_eq_getElem (by omega)]; rfl) q hq
    · rw [hx1]
      refine weights_field (i := 2) Tryz.underlying46 rfl (by simp only [List.getElem?_map]; rw [List.getElem?_eq_getElem (by omega)]; rfl) _ ?_
      rw [hk]
      simp [DataW.weights]
theorem sized_each {H : Type} {P : Program} {ts : List TypeId} {ds : List (DataW H)} (h : (DataW.weightsEach P ts ds).all (· ≤ reachBytes) = true) {j : Nat} {t : TypeId} {d : DataW H} (ht : ts[j]? = some t) (hd : ds[j]? = some d) : ∀ n ∈ d.weights P t, n ≤ reachBytes := fun n hn => by
  simpa using List.all_eq_true.1 h n (DataW.weights_mem_each ht hd n hn)
end Go.Proofs.YtpflbhcgkndpcaaGreatDoor

