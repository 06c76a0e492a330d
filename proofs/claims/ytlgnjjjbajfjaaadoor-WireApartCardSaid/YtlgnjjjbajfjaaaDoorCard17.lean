/- An argument that is a row of records (head of ArgRecs). -/
/- Stage 17: what the cards share. -/
/- An argument that is a word. -/
import Derived.Test.YtlgnjjjbajfjaaaDoorArgRec
import Derived.Test.YtlgnjjjbajfjaaaDoorRecordsR
import Derived.BigQuiet
import Derived.Test.YtlgnjjjbajfjaaaDoorCrc
import Derived.Test.YtlgnjjjbajfjaaaDoorLaw
import Derived.Test.YtlgnjjjbajfjaaaDoorCards
import Derived.Test.YtlgnjjjbajfjaaaDoorTie
import Derived.Deep.DeepHandedRow
import Derived.Lib.LaidTab
import Derived.Test.YtlgnjjjbajfjaaaDoorWdIs
set_option linter.unusedSimpArgs false
set_option linter.unusedVariables false
namespace Go.Proofs.YtlgnjjjbajfjaaaDoor
set_option maxRecDepth 100000
open Go.ChangeShapes Go.WideShapes Go.ChangeAt Go.RowKit Go.Joins Go.Deep

theorem weightsAll_mem {H : Type} {P : Program} {e : TypeId} : ∀ {ds : List (DataW H)} {d : DataW H}, d ∈ ds → ∀ n ∈ d.weights P e, n ∈ DataW.weightsAll P e ds
  | [], _, h, _, _ => by cases h
  | d' :: r, d, h, n, hn => by
    rw [DataW.weightsAll]
    rcases List.mem_cons.1 h with rfl | h
    · exact List.mem_append_left _ hn
    · exact List.mem_append_right _ (weightsAll_mem h n hn)
/-- What is known of a record that came in. -/
structure MrIn (w : World) (m : Mr) : Prop where
  at_ : m.At (fun _ => True) w
  key : isBy m.r.key
  val : isBy m.r.val
theorem open_rec_trod {H : Type} {enc : TypeId × Value → H} {w : World} {base : Nat} {sp : Nat → Bool} {fuel : Nat} {cs : List Value} {x : DataW H × List MemPlace} (hl : cs.length = 9) (hf : DataW.trod enc Tryd.prog w base sp true fuel 50 cs = some x) :
    ∃ m : Mr, cs = m.cs ∧ MrIn w m ∧ (∀ M, (∀ n ∈ x.1.weights Tryd.prog 50, n ≤ M) → m.r.val.length ≤ M ∧ m.r.key.length ≤ M) := by
  match cs, hl with
  | [c0, c1, c2, c3, c4, c5, c6, c7, c8], _ =>
    obtain ⟨xs, n, _, hx, _, hlen, hg⟩ := DataW.trod_struct Tryd.underlying50 hf
    have hlen' : xs.length = 4 := hlen
    have g0 := hg 0 _ rfl
    have g1 := hg 1 _ rfl
    have g2 := hg 2 _ rfl
    have g3 := hg 3 _ rfl
    rw [List.getElem?_eq_getElem (by omega)] at g0 g1 g2 g3
    have k0 : DataW.trod enc Tryd.prog w base sp true n 3 [c0] = some xs[0] := g0
    have k1 : DataW.trod enc Tryd.prog w base sp true n 3 [c1] = some xs[1] := g1
    have k2 : DataW.trod enc Tryd.prog w base sp true n 9 [c2] = some xs[2] := g2
    have k3 : DataW.trod enc Tryd.prog w base sp true n 48 [c3, c4, c5, c6, c7, c8] = some xs[3] := g3
    obtain ⟨o, e0, _, w0⟩ := DataW.trod_int Tryd.underlying3 k0
    obtain ⟨s, e1, _, w1⟩ := DataW.trod_int Tryd.underlying3 k1
    obtain ⟨key, e2, hk, _⟩ := DataW.trod_string Tryd.underlying9 k2
    obtain ⟨ml, ct, vo, A, l, c, gone, tt, e3, hl, hm, hby, hb, hn, _, hw⟩ := open_ver k3
    simp only [List.cons.injEq, and_true] at e0 e1 e2 e3
    obtain ⟨rfl, rfl, rfl, rfl, rfl, rfl⟩ := e3
    subst e0 e1 e2
    refine ⟨⟨⟨o, s, kL key, ml, ct, vo, l, gone, tt⟩, A, c⟩, by simp [Mr.cs, str_kL], ⟨⟨hby, hn, fun _ _ _ => trivial⟩, kL_by key, hb⟩, fun M hM => ⟨hw M (fun q hq => hM q ?_), ?_⟩⟩
    · rw [hx]
      exact weights_field (i := 3) Tryd.underlying50 rfl (by simp only [List.getElem?_map]; rw [List.getElem?_eq_getElem (by omega)]; rfl) q hq
    · show (kL key).length ≤ M
      rw [kL_len]
      refine hM key.size ?_
      rw [hx]
      refine weights_field (i := 2) Tryd.underlying50 rfl (by simp only [List.getElem?_map]; rw [List.getElem?_eq_getElem (by omega)]; rfl) _ ?_
      rw [hk]
      simp [DataW.weights]
theorem open_records {H : Type} {enc : TypeId × Value → H} {w : World} {r : Reach} {b0 base : Nat} {sp : Nat → Bool} {v : Value} {d : DataW H} {p : List MemPlace} (hv : Value.okWide Tryd.prog w r b0 24 v) (h : DataW.Trod enc Tryd.prog w base sp true 24 v d p) :
    ∃ (L : List Mr) (A : Option Addr) (c : Nat), v = .slice A L.length c ∧ L.length ≤ maxLen ∧ RowAt w v L ∧ (∀ m ∈ L, MrIn w m) ∧ (A = none → L.length = 0 ∧ c = 0) ∧ (∀ M, (∀ n ∈ d.weights Tryd.prog 24, n ≤ M) → ∀ m ∈ L, m.r.val.length ≤ M ∧ m.r.key.length ≤ M) := by
  obtain ⟨a0, len, cap, rfl⟩ := okWide_slice Tryd.underlying24 hv
  obtain ⟨fuel, hf⟩ := h
  rcases Go.Deep.open_slice Tryd.underlying24 hf with ⟨hcs, _⟩ | ⟨a, len', cap', mm, k, D, Pl, hcs, _, hl, hmx, hmm, hx, hi⟩
  · simp [Value.cells] at hcs
    obtain ⟨rfl, rfl, rfl⟩ := hcs
    exact ⟨[], none, 0, rfl, by simp, ⟨none, 0, rfl, fun h => absurd h (by simp)⟩, fun m hm => (by cases hm), fun _ => ⟨rfl, rfl⟩, fun M _ m hm => (by cases hm)⟩
  · simp [Value.cells] at hcs
    obtain ⟨rfl, rfl, rfl⟩ := hcs
    rw [rec_cells] at hi
    have hlm : len ≤ mm := by rw [hmm]; split <;> omega
    have hex : ∀ i, ∃ m : Mr, i < len → (∀ j u, m.cs[j]? = some u → w.cell? ((a.add (i * 9)).add j) = some u) ∧ MrIn w m ∧ (∀ M, (∀ n ∈ (D i).weights Tryd.prog 50, n ≤ M) → m.r.val.length ≤ M ∧ m.r.key.length ≤ M) := fun i => by
      by_cases hil : i < len
      · obtain ⟨cs', hc, ht⟩ := hi i (by omega)
        obtain ⟨_, hcl, hat⟩ := World.cells?_some hc
        obtain ⟨m, hm, hin, hw⟩ := open_rec_trod hcl ht
        refine ⟨m, fun _ => ⟨fun j u hu => ?_, hin, hw⟩⟩
        have hj : j < 9 := by
          have := (List.getElem?_eq_some_iff.1 hu).1
          simpa [Mr.cs] using this
        rw [hat j hj, hm]
        exact hu
      · exact ⟨⟨⟨0, 0, [], 0, 0, 0, [], false, 0⟩, none, 0⟩, fun h => absurd h hil⟩
    have hF : ∃ F : Nat → Mr, ∀ i, i < len → (∀ j u, (F i).cs[j]? = some u → w.cell? ((a.add (i * 9)).add j) = some u) ∧ MrIn w (F i) ∧ (∀ M, (∀ n ∈ (D i).weights Tryd.prog 50, n ≤ M) → (F i).r.val.length ≤ M ∧ (F i).r.key.length ≤ M) := ⟨fun i => Classical.choose (hex i), fun i => Classical.choose_spec (hex i)⟩
    obtain ⟨F, hF⟩ := hF
    have hLl : ((List.range len).map F).length = len := by simp
    have hLa : ∀ i, i < len → ((List.range len).map F)[i]? = some (F i) := fun i hi => by simp [hi]
    refine ⟨(List.range len).map F, some a, cap, by rw [hLl], by rw [hLl]; omega, ⟨some a, cap, by rw [hLl], fun h0 => ?_⟩, fun m hm => ?_, (fun e => by cases e), fun M hM m hm => ?_⟩
    · rw [hLl] at h0
      obtain ⟨B, O, spot⟩ := a
      have h00 := (hF 0 h0).1 0 _ rfl
      have hspot : spot = none := by simpa [Addr.add] using World.cell?_spot h00
      subst hspot
      rw [add_plain, add_plain] at h00
      refine ⟨B, O, rfl, cell_lt' h00, fun j u hu => ?_⟩
      have hj : j < len * 9 := by
        have := (List.getElem?_eq_some_iff.1 hu).1
        rwa [rowM_len, hLl] at this
      have hk : j / 9 < len := by omega
      have he : j / 9 * 9 + j % 9 = j := by omega
      have h2 := rowM_at (hLa (j / 9) hk) (j % 9) (by omega)
      rw [he] at h2
      rw [h2] at hu
      have h3 := (hF (j / 9) hk).1 (j % 9) u hu
      rw [add_plain, add_plain, Nat.add_assoc, he] at h3
      exact h3
    · obtain ⟨i, hi', rfl⟩ := List.mem_map.1 hm
      exact (hF i (List.mem_range.1 hi')).2.1
    · obtain ⟨i, hi', rfl⟩ := List.mem_map.1 hm
      have hil := List.mem_range.1 hi'
      refine (hF i hil).2.2 M (fun n hn => hM n ?_)
      injection hx with hx1 _
      rw [hx1]
      simp only [DataW.weights, Tryd.underlying24]
      exact List.mem_cons_of_mem _ (List.mem_append_left _ (weightsAll_mem (List.mem_map.2 ⟨i, List.mem_range.2 hil, rfl⟩) n hn))
end Go.Proofs.YtlgnjjjbajfjaaaDoor
namespace Go.Proofs.YtlgnjjjbajfjaaaDoor
open Go.ChangeShapes Go.WideShapes Go.ChangeAt Go.RowKit Go.Joins

def litCells : Nat → DataW Unit → List Value
  | 0, _ => []
  | _ + 1, .lit (.int k n) => [.int k n]
  | f + 1, .agg l => l.flatMap (litCells f)
  | _ + 1, _ => []
/-- A world in which a listed table holds what it is laid with. -/
def layAt (w : World) (g : Nat) (d : DataW Unit) : World := { w with heap := w.heap.modify g fun
  | .cells _ t fr => .cells (litCells 4 d).toArray t fr
  | o => o }
theorem plain_of {lk : Bool} {f0 : Nat} {fn0 : Func} {nm : String} (h1 : Tryd.prog.funcNamed nm = some f0) (h2 : Tryd.prog.funcs[f0]? = some fn0) (h3 : lk = Tryd.prog.looks []) (h4 : (fn0.params.all fun t => !Tryd.prog.wantsStandIn t) = true) (f : FuncId) (fn : Func) (hf : Tryd.pinned.checked.prog.funcNamed nm = some f) (hfn : Tryd.pinned.checked.prog.funcs[f]? = some fn) :
    lk = Tryd.pinned.checked.prog.looks [] ∧ ∀ (j : Nat) t, fn.params[j]? = some t → Tryd.pinned.checked.prog.wantsStandIn t = false := by
  obtain rfl : f = f0 := Option.some.inj ((show Tryd.prog.funcNamed nm = some f from hf).symm.trans h1)
  obtain rfl : fn = fn0 := Option.some.inj ((show Tryd.prog.funcs[f]? = some fn from hfn).symm.trans h2)
  refine ⟨h3, fun j t ht => ?_⟩
  have hm := Array.mem_of_getElem? ht
  have := Array.all_eq_true'.1 h4 t hm
  exact (show Tryd.prog.wantsStandIn t = false by simpa using this)
theorem nib_of_laid {W : World} (h : laidMet Tryd.prog [("meridian/octet.nibbles", Rows.laid_meridian_octet_nibbles)] W) : Nib W :=
  Lib.tabIs_of_head (g := 0) (t := 109) (e := 90) (n := 16) (rest := []) (by kernel_rfl) (by kernel_rfl) Tryd.underlying109 Tryd.underlying90 (by kernel_rfl) (by kernel_rfl) h
noncomputable def layW1 (os : Os) : World := layAt (World.holding Tryd.prog os ⟨#[], #[], []⟩) 0 Rows.laid_meridian_octet_nibbles
end Go.Proofs.YtlgnjjjbajfjaaaDoor
namespace Go.Proofs.YtlgnjjjbajfjaaaDoor
set_option maxRecDepth 100000
open Go.ChangeShapes Go.WideShapes Go.ChangeAt Go.RowKit Go.Joins Go.Deep

theorem open_recs_trod {H : Type} {enc : TypeId × Value → H} {w : World} {base : Nat} {sp : Nat → Bool} {fuel : Nat} {cs : List Value} {x : DataW H × List MemPlace} (hf : DataW.trod enc Tryd.prog w base sp true fuel 24 cs = some x) :
    ∃ (L : List Mr) (A : Option Addr) (c : Nat), cs = [.slice A L.length c] ∧ L.length ≤ maxLen ∧ RowAt w (.slice A L.length c) L ∧ (∀ m ∈ L, MrIn w m) ∧ (A = none → L.length = 0 ∧ c = 0) ∧ (∀ M, (∀ n ∈ x.1.weights Tryd.prog 24, n ≤ M) → ∀ m ∈ L, m.r.val.length ≤ M ∧ m.r.key.length ≤ M) := by
  rcases Go.Deep.open_slice Tryd.underlying24 hf with ⟨hcs, _⟩ | ⟨a, len, cap, mm, k, D, Pl, hcs, _, hl, hmx, hmm, hx, hi⟩
  · exact ⟨[], none, 0, hcs, by simp, ⟨none, 0, rfl, fun h => absurd h (by simp)⟩, fun m hm => (by cases hm), fun _ => ⟨rfl, rfl⟩, fun M _ m hm => (by cases hm)⟩
  · rw [rec_cells] at hi
    have hlm : len ≤ mm := by rw [hmm]; split <;> omega
    have hex : ∀ i, ∃ m : Mr, i < len → (∀ j u, m.cs[j]? = some u → w.cell? ((a.add (i * 9)).add j) = some u) ∧ MrIn w m ∧ (∀ M, (∀ n ∈ (D i).weights Tryd.prog 50, n ≤ M) → m.r.val.length ≤ M ∧ m.r.key.length ≤ M) := fun i => by
      by_cases hil : i < len
      · obtain ⟨cs', hc, ht⟩ := hi i (by omega)
        obtain ⟨_, hcl, hat⟩ := World.cells?_some hc
        obtain ⟨m, hm, hin, hw⟩ := open_rec_trod hcl ht
        refine ⟨m, fun _ => ⟨fun j u hu => ?_, hin, hw⟩⟩
        have hj : j < 9 := by
          have := (List.getElem?_eq_some_iff.1 hu).1
          simpa [Mr.cs] using this
        rw [hat j hj, hm]
        exact hu
      · exact ⟨⟨⟨0, 0, [], 0, 0, 0, [], false, 0⟩, none, 0⟩, fun h => absurd h hil⟩
    have hF : ∃ F : Nat → Mr, ∀ i, i < len → (∀ j u, (F i).cs[j]? = some u → w.cell? ((a.add (i * 9)).add j) = some u) ∧ MrIn w (F i) ∧ (∀ M, (∀ n ∈ (D i).weights Tryd.prog 50, n ≤ M) → (F i).r.val.length ≤ M ∧ (F i).r.key.length ≤ M) := ⟨fun i => Classical.choose (hex i), fun i => Classical.choose_spec (hex i)⟩
    obtain ⟨F, hF⟩ := hF
    have hLl : ((List.range len).map F).length = len := by simp
    have hLa : ∀ i, i < len → ((List.range len).map F)[i]? = some (F i) := fun i hi => by simp [hi]
    refine ⟨(List.range len).map F, some a, cap, by rw [hLl]; exact hcs, by rw [hLl]; omega, ⟨some a, cap, by rw [hLl], fun h0 => ?_⟩, fun m hm => ?_, (fun e => by cases e), fun M hM m hm => ?_⟩
    · rw [hLl] at h0
      obtain ⟨B, O, spot⟩ := a
      have h00 := (hF 0 h0).1 0 _ rfl
      have hspot : spot = none := by simpa [Addr.add] using World.cell?_spot h00
      subst hspot
      rw [add_plain, add_plain] at h00
      refine ⟨B, O, rfl, cell_lt' h00, fun j u hu => ?_⟩
      have hj : j < len * 9 := by
        have := (List.getElem?_eq_some_iff.1 hu).1
        rwa [rowM_len, hLl] at this
      have hk : j / 9 < len := by omega
      have he : j / 9 * 9 + j % 9 = j := by omega
      have h2 := rowM_at (hLa (j / 9) hk) (j % 9) (by omega)
      rw [he] at h2
      rw [h2] at hu
      have h3 := (hF (j / 9) hk).1 (j % 9) u hu
      rw [add_plain, add_plain, Nat.add_assoc, he] at h3
      exact h3
    · obtain ⟨i, hi', rfl⟩ := List.mem_map.1 hm
      exact (hF i (List.mem_range.1 hi')).2.1
    · obtain ⟨i, hi', rfl⟩ := List.mem_map.1 hm
      have hil := List.mem_range.1 hi'
      refine (hF i hil).2.2 M (fun n hn => hM n ?_)
      rw [hx]
      simp only [DataW.weights, Tryd.underlying24]
      exact List.mem_cons_of_mem _ (List.mem_append_left _ (weightsAll_mem (List.mem_map.2 ⟨i, List.mem_range.2 hil, rfl⟩) n hn))
theorem word_cells : Tryd.prog.cellsOf 26 = 8 := by kernel_rfl
theorem open_stamp_trod {H : Type} {enc : TypeId × Value → H} {w : World} {base : Nat} {sp : Nat → Bool} {fuel : Nat} {c0 c1 : Value} {x : DataW H × List MemPlace} (hf : DataW.trod enc Tryd.prog w base sp true fuel 23 [c0, c1] = some x) :
    ∃ m c : Int, c0 = .int .i64 m ∧ c1 = .int .i64 c := by
  obtain ⟨ys, m, _, hy, _, hlen2, hg2⟩ := DataW.trod_struct Tryd.underlying23 hf
  have hlen2' : ys.length = 2 := hlen2
  have j0 := hg2 0 _ rfl
  have j1 := hg2 1 _ rfl
  rw [List.getElem?_eq_getElem (by omega)] at j0 j1
  have i0 : DataW.trod enc Tryd.prog w base sp true m 3 [c0] = some ys[0] := j0
  have i1 : DataW.trod enc Tryd.prog w base sp true m 3 [c1] = some ys[1] := j1
  obtain ⟨ml, e0, _, w0⟩ := DataW.trod_int Tryd.underlying3 i0
  obtain ⟨ct, e1, _, w1⟩ := DataW.trod_int Tryd.underlying3 i1
  simp only [List.cons.injEq, and_true] at e0 e1
  exact ⟨ml, ct, e0, e1⟩
theorem open_word {H : Type} {enc : TypeId × Value → H} {w : World} {base b0 : Nat} {r : Reach} {sp : Nat → Bool} {v : Value} {d : DataW H} {p : List MemPlace} (hv : Value.okWide Tryd.prog w r b0 26 v) (h : DataW.Trod enc Tryd.prog w base sp true 26 v d p) :
    ∃ (k o s m1 c1 m2 c2 : Int) (L : List Mr) (A : Option Addr) (c : Nat), v = wdV k o s m1 c1 m2 c2 (.slice A L.length c) ∧ L.length ≤ maxLen ∧ RowAt w (.slice A L.length c) L ∧ (∀ m ∈ L, MrIn w m) ∧
      (∀ M, (∀ n ∈ d.weights Tryd.prog 26, n ≤ M) → ∀ m ∈ L, m.r.val.length ≤ M ∧ m.r.key.length ≤ M) := by
  obtain ⟨cs, rfl, hsz⟩ := okWide_struct Tryd.underlying26 hv
  rw [word_cells] at hsz
  obtain ⟨ls⟩ := cs
  match ls, hsz with
  | [c0, c1, c2, c3, c4, c5, c6, c7], _ =>
    obtain ⟨fuel, hf⟩ := h
    have e : (Value.agg #[c0, c1, c2, c3, c4, c5, c6, c7]).cells.toList = [c0, c1, c2, c3, c4, c5, c6, c7] := by simp [Value.cells]
    rw [e] at hf
    obtain ⟨xs, n, _, hx, _, hlen, hg⟩ := DataW.trod_struct Tryd.underlying26 hf
    have hlen' : xs.length = 6 := hlen
    have g0 := hg 0 _ rfl
    have g1 := hg 1 _ rfl
    have g2 := hg 2 _ rfl
    have g3 := hg 3 _ rfl
    have g4 := hg 4 _ rfl
    have g5 := hg 5 _ rfl
    rw [List.getElem?_eq_getElem (by omega)] at g0 g1 g2 g3 g4 g5
    have k0 : DataW.trod enc Tryd.prog w base sp true n 3 [c0] = some xs[0] := g0
    have k1 : DataW.trod enc Tryd.prog w base sp true n 3 [c1] = some xs[1] := g1
    have k2 : DataW.trod enc Tryd.prog w base sp true n 3 [c2] = some xs[2] := g2
    have k3 : DataW.trod enc Tryd.prog w base sp true n 23 [c3, c4] = some xs[3] := g3
    have k4 : DataW.trod enc Tryd.prog w base sp true n 23 [c5, c6] = some xs[4] := g4
    have k5 : DataW.trod enc Tryd.prog w base sp true n 24 [c7] = some xs[5] := g5
    obtain ⟨k, e0, _, _⟩ := DataW.trod_int Tryd.underlying3 k0
    obtain ⟨o, e1, _, _⟩ := DataW.trod_int Tryd.underlying3 k1
    obtain ⟨s, e2, _, _⟩ := DataW.trod_int Tryd.underlying3 k2
    obtain ⟨m1, n1, rfl, rfl⟩ := open_stamp_trod k3
    obtain ⟨m2, n2, rfl, rfl⟩ := open_stamp_trod k4
    obtain ⟨L, A, c, e7, hmx, hrow, hin, _, hz⟩ := open_recs_trod k5
    simp only [List.cons.injEq, and_true] at e0 e1 e2 e7
    subst e0 e1 e2 e7
    injection hx with hx1 hx2
    refine ⟨k, o, s, m1, n1, m2, n2, L, A, c, rfl, hmx, hrow, hin, fun M hM => hz M (fun q hq => hM q ?_)⟩
    rw [hx1]
    exact weights_field (i := 5) Tryd.underlying26 rfl (by simp only [List.getElem?_map]; rw [List.getElem?_eq_getElem (by omega)]; rfl) q hq
end Go.Proofs.YtlgnjjjbajfjaaaDoor
