/- Stage 25: causal.Writes of events of which the first one alone is a write (written by gen/cz25.py). -/
import Derived.Test.YtdjhpajmbddffaaCz25
import Derived.Deep.AppendLies
import Derived.Great.BuildSlice
set_option linter.unusedSimpArgs false
set_option linter.unusedVariables false
namespace Go.Proofs.Ytdjhpajmbddffaa
open Go.RowKit

/-- A slice of one write: where it lies, and its value. -/
structure W1 (n0 : Nat) (w : World) (e : Ev) (p : List Int) (g : Nat) (A' : Option Addr) (c' : Nat) : Prop where
  c0 : w.cell? ⟨g, 0, none⟩ = some (.int .i64 e.who)
  c1 : w.cell? ⟨g, 1, none⟩ = some (.string e.key)
  c2 : w.cell? ⟨g, 2, none⟩ = some (.int .i64 e.tm)
  c3 : w.cell? ⟨g, 3, none⟩ = some (.int .i64 e.tc)
  c4 : w.cell? ⟨g, 4, none⟩ = some (.int .i64 e.nd)
  c5 : w.cell? ⟨g, 5, none⟩ = some ((.slice A' p.length c'))
  c6 : w.cell? ⟨g, 6, none⟩ = some (.bool false)
  c7 : w.cell? ⟨g, 7, none⟩ = some (.int .i64 e.n)
  c8 : w.cell? ⟨g, 8, none⟩ = some (.bool false)
  lo : n0 ≤ g
  lt : g < w.heap.size
  by_ : ByL w A' p
  nil : A' = none → p.length = 0
  alo : ∀ ad, A' = some ad → n0 ≤ ad.block ∧ ad.block < w.heap.size
theorem W1.but {n0 : Nat} {w w' : World} {e : Ev} {p : List Int} {g : Nat} {A' : Option Addr} {c' : Nat} {S : Nat → Prop} (h : W1 n0 w e p g A' c') (k : But S w w') (hn : ∀ i, S i → i < n0 ∨ w.heap.size ≤ i) : W1 n0 w' e p g A' c' := by
  have hg : ¬ S g := fun q => by have := hn g q; have := h.lo; have := h.lt; omega
  have hz := k.size
  refine ⟨(k.cell g 0 h.lt hg).trans h.c0, (k.cell g 1 h.lt hg).trans h.c1, (k.cell g 2 h.lt hg).trans h.c2, (k.cell g 3 h.lt hg).trans h.c3, (k.cell g 4 h.lt hg).trans h.c4, (k.cell g 5 h.lt hg).trans h.c5, (k.cell g 6 h.lt hg).trans h.c6, (k.cell g 7 h.lt hg).trans h.c7, (k.cell g 8 h.lt hg).trans h.c8, h.lo, Nat.lt_of_lt_of_le h.lt hz, fun h0 => ?_, h.nil, fun ad ha => ⟨(h.alo ad ha).1, Nat.lt_of_lt_of_le (h.alo ad ha).2 hz⟩⟩
  obtain ⟨B, O, hA, hB, hc⟩ := h.by_ h0
  have ha := h.alo _ hA
  exact ⟨B, O, hA, Nat.lt_of_lt_of_le hB hz, fun j u hu => (k.cell B _ hB (fun q => by have := hn B q; have : n0 ≤ B := ha.1; omega)).trans (hc j u hu)⟩
theorem W1.below {n0 : Nat} {w w' : World} {e : Ev} {p : List Int} {g : Nat} {A' : Option Addr} {c' : Nat} (h : W1 n0 w e p g A' c') (k : Below w.heap.size w w') : W1 n0 w' e p g A' c' := h.but (S := fun _ => False) (But.of_below k) (fun _ h => h.elim)
theorem fill9 (i0 : TypeInfo) (hs : i0.size = 9) (z : Value) (C : List Value) (hC : C.length = 9) : Instr.fill (fun i => some (i * i0.size, i0.size)) ((Array.range (1 * i0.size)).map (z.cells[· % z.cells.size]!)) [(0, .agg C.toArray)] = some C.toArray := by
  rw [hs]
  obtain ⟨r, h1, h2, h3⟩ := Great.fill_dense (s := 9) (by omega) [.agg C.toArray] 0 ((Array.range (1 * 9)).map (z.cells[· % z.cells.size]!)) (by intro v hv; simp at hv; subst hv; simpa [Value.cells] using hC) (by simp)
  have hr : r = C.toArray := by
    apply Array.ext_getElem?
    intro k
    rw [h3 k]
    by_cases hk : k < 9
    · rw [if_pos (by simp; omega)]
      have e1 : k / 9 = 0 := by omega
      have e2 : k % 9 = k := by omega
      simp [e1, e2, Value.cells]
    · rw [if_neg (by simp; omega), Array.getElem?_eq_none (by simp; omega), Array.getElem?_eq_none (by simp; omega)]
  subst hr
  exact h1
theorem hd_none {v : Value} (h : v = .slice none 0 0) : v = .slice none 0 0 := h
set_option maxRecDepth 100000 in
set_option maxHeartbeats 8000000 in
theorem writes_one (B O c : Nat) (L : List Ev) (e : Ev) (p : List Int) (w : World) (h : RowE w B O L) (hl : L.length ≤ 1000) (h0 : L[0]? = some e) (hkd : e.kd = 1) (her : e.er = 0) (hvl : e.vl = p.length) (hp : ByL w e.A p) (hpn : e.A = none → p.length = 0) (hpl : p.length ≤ 1000)
    (hk : ∀ k e, 0 < k → L[k]? = some e → (e.kd == 1 || e.kd == 2) = false) :
    Calls Try.prog 7 #[.slice (some ⟨B, O, none⟩) L.length c] w fun e' w' => (∃ g cap A' c', e' = .returned (.slice (some ⟨g, 0, none⟩) 1 cap) ∧ W1 w.heap.size w' e p g A' c') ∧ Below w.heap.size w w' := by
  obtain ⟨i0, hi0, hz0, hz1, hz2⟩ := info_parts wr_info
  have h0l : 0 < L.length := (List.getElem?_eq_some_iff.1 h0).1
  have HR := Lib.hid h
  have HK := Lib.hid hk
  have HE0 := Lib.hid h0
  have HPB := Lib.hid hp
  have HPN := Lib.hid hpn
  have hBlt := h.1
  clear h hk h0 hp hpn
  go_enter Try.func7, Try.ntmps7
  go_wp2_with fail
  go_loopw [9, 3] (fun i v wr => ∃ k : Nat, k ≤ L.length ∧ i = .int .i64 (k : Int) ∧ ((k = 0 ∧ v = .slice none 0 0) ∨ (0 < k ∧ ∃ g cap A' c', v = .slice (some ⟨g, 0, none⟩) 1 cap ∧ W1 w.heap.size wr e p g A' c')) ∧ Below w.heap.size w wr) (fun i _ _ => (1001 - intOf i).toNat)
  case atStart => exact ⟨0, by omega, by simp, .inl ⟨rfl, rfl⟩, Below.refl _ _⟩
  case round =>
    obtain ⟨k, hk, rfl, hv, hb⟩ := hrel
    have HB := Lib.hid hb
    have wk : IntKind.i64.wrap ((k : Int) + 1) = (k : Int) + 1 := IntWalk.i64_in _ (by omega)
    clear hb
    rcases hv with ⟨rfl, rfl⟩ | ⟨hk0, g, cap, A', c', rfl, hw1⟩
    · as_aux_lemma =>
      have t1 : decide (((0 : Nat) : Int) < (L.length : Int)) = true := by simp; omega
      have hki : ((0 : Nat) : Int) < (L.length : Int) := by omega
      have hki2 : (0 : Int) < (L.length : Int) := by omega
      have hrg := Ev.range (HR.out.below HB.out) HE0.out
      obtain ⟨X, hX⟩ : ∃ X : Array Value, e.cs.toArray = X := ⟨_, rfl⟩
      have x0 : X[0]? = some (.int .i64 e.who) := by rw [← hX]; simp [Ev.cs, hkd, her, hvl]
      have x1 : X[1]? = some (.int .i64 1) := by rw [← hX]; simp [Ev.cs, hkd, her, hvl]
      have x2 : X[2]? = some (.int .i64 e.nd) := by rw [← hX]; simp [Ev.cs, hkd, her, hvl]
      have x3 : X[3]? = some (.int .i64 e.n) := by rw [← hX]; simp [Ev.cs, hkd, her, hvl]
      have x8 : X[8]? = some (.string e.key) := by rw [← hX]; simp [Ev.cs, hkd, her, hvl]
      have x10 : X[10]? = some (.slice e.A p.length e.vc) := by rw [← hX]; simp [Ev.cs, hkd, her, hvl]
      have x11 : X[11]? = some (.int .i64 0) := by rw [← hX]; simp [Ev.cs, hkd, her, hvl]
      have x13 : X[13]? = some (.int .i64 e.tm) := by rw [← hX]; simp [Ev.cs, hkd, her, hvl]
      have x14 : X[14]? = some (.int .i64 e.tc) := by rw [← hX]; simp [Ev.cs, hkd, her, hvl]
      have HSZ : Hid (X.size = 18) := Lib.hid (by rw [← hX]; rfl)
      have hone : X.all (·.oneCell') = true := by rw [← hX]; exact e.one
      have HW := Lib.hid (fun W : World => is_write 1 W true rfl)
      have HX := Lib.hid hX
      clear hX
      go_upto_region 4 with fail
      refine wp_region_lit ?_
      refine wpList_plain rfl (fun KK hKK => ?_)
      go_simp
      refine hKK _ _ ?_
      refine wpList_load_mid rfl 47 (.tmp 11) rfl B (O + 0 * 18) (by simp; rfl) e.cs _ hrg Try.underlying47 rfl (by kernel_rfl) ?_
      rw [HX.out]
      refine wpList_plain rfl (fun KK hKK => ?_)
      go_simp
      refine hKK _ _ ?_
      refine wpList_store_new25 rfl 47 (.tmp 5) (.tmp 12) rfl evZ X rfl rfl (by rw [HSZ.out, ev_info]) (by rw [HSZ.out]; rfl) hone ?_
      refine wpList_nil ?_
      clear hrg hone HX
      go_wp2_with (go_at_call 13; refine (HW.out _).mono ?_; rintro e2 w2 ⟨rfl, rfl⟩)
      obtain ⟨V0, hV0⟩ : ∃ V0, ((wr.alloc (.cells X 47)).alloc (.cells #[.int .i64 e.who, .string e.key, .int .i64 e.tm, .int .i64 e.tc, .int .i64 e.nd, .slice none 0 0, .bool false, .int .i64 0, .bool false] 37)) = V0 := ⟨_, rfl⟩
      have k0 : Below wr.heap.size wr V0 := by rw [← hV0]; exact ((Below.refl _ _).alloc (Nat.le_refl _) _).alloc (by simp) _
      have HB0 := Lib.hid (HB.out.trans (k0.mono HB.out.size))
      have l0 : wr.heap.size + 1 < V0.heap.size := by rw [← hV0]; simp
      have v10 : V0.cell? ⟨wr.heap.size, 10, none⟩ = some (.slice e.A p.length e.vc) := by rw [← hV0]; simp; exact x10
      have v3 : V0.cell? ⟨wr.heap.size, 3, none⟩ = some (.int .i64 e.n) := by rw [← hV0]; simp; exact x3
      have d0 : V0.cell? ⟨wr.heap.size + 1, 0, none⟩ = some (.int .i64 e.who) := by rw [← hV0]; simp
      have d1 : V0.cell? ⟨wr.heap.size + 1, 1, none⟩ = some (.string e.key) := by rw [← hV0]; simp
      have d2 : V0.cell? ⟨wr.heap.size + 1, 2, none⟩ = some (.int .i64 e.tm) := by rw [← hV0]; simp
      have d3 : V0.cell? ⟨wr.heap.size + 1, 3, none⟩ = some (.int .i64 e.tc) := by rw [← hV0]; simp
      have d4 : V0.cell? ⟨wr.heap.size + 1, 4, none⟩ = some (.int .i64 e.nd) := by rw [← hV0]; simp
      have d5 : V0.cell? ⟨wr.heap.size + 1, 5, none⟩ = some (.slice none 0 0) := by rw [← hV0]; simp
      have d6 : V0.cell? ⟨wr.heap.size + 1, 6, none⟩ = some (.bool false) := by rw [← hV0]; simp
      have d7 : V0.cell? ⟨wr.heap.size + 1, 7, none⟩ = some (.int .i64 0) := by rw [← hV0]; simp
      have d8 : V0.cell? ⟨wr.heap.size + 1, 8, none⟩ = some (.bool false) := by rw [← hV0]; simp
      have f5 : V0.frozen? ⟨wr.heap.size + 1, 5, none⟩ = false := by rw [← hV0]; simp
      have f7 : V0.frozen? ⟨wr.heap.size + 1, 7, none⟩ = false := by rw [← hV0]; simp
      rw [hV0]
      have hwz : w.heap.size ≤ wr.heap.size := HB.out.size
      clear hV0 k0 x0 x1 x2 x3 x8 x10 x11 x13 x14
      generalize hg5 : wr.heap.size = g5 at *
      clear hg5
      refine wp_region_held_drew (S := fun w' => w'.cell? ⟨g5, 10, none⟩ = some (.slice e.A p.length e.vc) ∧ w'.cell? ⟨g5, 3, none⟩ = some (.int .i64 e.n)) (by kernel_rfl) ?_ (fun hHeld => ?_)
      · exact ⟨v10, v3⟩
      have HB1 := Lib.hid HB0.out.drew
      obtain ⟨V1, hV1⟩ : ∃ V1, V0.drew = V1 := ⟨_, rfl⟩
      have k1 : Below V0.heap.size V0 V1 := by rw [← hV1]; exact (Below.refl _ _).drew
      have l1 := Nat.lt_of_lt_of_le l0 k1.size
      replace v10 := (k1.cell (p := ⟨g5, 10, none⟩) (Nat.lt_of_succ_lt l0)).trans v10
      replace v3 := (k1.cell (p := ⟨g5, 3, none⟩) (Nat.lt_of_succ_lt l0)).trans v3
      replace d0 := (k1.cell (p := ⟨g5 + 1, 0, none⟩) l0).trans d0
      replace d1 := (k1.cell (p := ⟨g5 + 1, 1, none⟩) l0).trans d1
      replace d2 := (k1.cell (p := ⟨g5 + 1, 2, none⟩) l0).trans d2
      replace d3 := (k1.cell (p := ⟨g5 + 1, 3, none⟩) l0).trans d3
      replace d4 := (k1.cell (p := ⟨g5 + 1, 4, none⟩) l0).trans d4
      replace d5 := (k1.cell (p := ⟨g5 + 1, 5, none⟩) l0).trans d5
      replace d6 := (k1.cell (p := ⟨g5 + 1, 6, none⟩) l0).trans d6
      replace d7 := (k1.cell (p := ⟨g5 + 1, 7, none⟩) l0).trans d7
      replace d8 := (k1.cell (p := ⟨g5 + 1, 8, none⟩) l0).trans d8
      replace f5 := (k1.frozen (p := ⟨g5 + 1, 5, none⟩) l0).trans f5
      replace f7 := (k1.frozen (p := ⟨g5 + 1, 7, none⟩) l0).trans f7
      rw [hV1] at HB1 hHeld ⊢
      have HCL := Lib.hid (bytes_clone e.A p e.vc V1 (HPB.out.below HB1.out) HPN.out (by omega))
      clear hV1 k1 HB0 l0
      refine tk9 0 ?_
      refine tk9 1 ?_
      refine tk9 2 ?_
      refine tk9 4 ?_
      refine tk9 5 ?_
      refine tk9 6 ?_
      refine wpAnyH_ready (rs := [3]) (by kernel_rfl) (by simp) ?_
      refine AllReadyH.cons rfl (fun K hK => ?_) (AllReadyH.nil)
      go_simp
      (go_at_call 14; refine HCL.out.mono ?_; rintro e2 V2 ⟨v2, rfl, ho2, k2⟩)
      obtain ⟨A2, c2, rfl, hl2, hby2, hn2, ha2⟩ := own8_shape ho2
      have HB2 := Lib.hid (HB1.out.trans (k2.mono HB1.out.size))
      have l2 := Nat.lt_of_lt_of_le l1 k2.size
      replace v10 := (k2.cell (p := ⟨g5, 10, none⟩) (Nat.lt_of_succ_lt l1)).trans v10
      replace v3 := (k2.cell (p := ⟨g5, 3, none⟩) (Nat.lt_of_succ_lt l1)).trans v3
      replace d0 := (k2.cell (p := ⟨g5 + 1, 0, none⟩) l1).trans d0
      replace d1 := (k2.cell (p := ⟨g5 + 1, 1, none⟩) l1).trans d1
      replace d2 := (k2.cell (p := ⟨g5 + 1, 2, none⟩) l1).trans d2
      replace d3 := (k2.cell (p := ⟨g5 + 1, 3, none⟩) l1).trans d3
      replace d4 := (k2.cell (p := ⟨g5 + 1, 4, none⟩) l1).trans d4
      replace d5 := (k2.cell (p := ⟨g5 + 1, 5, none⟩) l1).trans d5
      replace d6 := (k2.cell (p := ⟨g5 + 1, 6, none⟩) l1).trans d6
      replace d7 := (k2.cell (p := ⟨g5 + 1, 7, none⟩) l1).trans d7
      replace d8 := (k2.cell (p := ⟨g5 + 1, 8, none⟩) l1).trans d8
      replace f5 := (k2.frozen (p := ⟨g5 + 1, 5, none⟩) l1).trans f5
      replace f7 := (k2.frozen (p := ⟨g5 + 1, 7, none⟩) l1).trans f7
      have HY2 := Lib.hid (And.intro hby2 (And.intro hn2 ha2))
      have hzz := k2.size
      clear k2 ho2 hl2 hby2 hn2 ha2 HCL HB1
      (try dsimp only)
      refine hK.out _ _ ?_ (fun hHeld => ?_)
      · exact ⟨v10, v3⟩
      clear hK K
      (try simp only [Act.put, List.setIfInBounds_toArray, List.set_cons_zero, List.set_cons_succ, List.getElem_toArray, List.getElem_cons_succ, List.getElem_cons_zero])
      refine tk9 7 ?_
      refine tk9 8 ?_
      have f7b : (V2.setCell ⟨g5 + 1, 5, none⟩ (.slice A2 p.length c2)).frozen? ⟨g5 + 1, 7, none⟩ = false := by simpa using f7
      have b0 := (World.cell?_setCell_other V2 ⟨g5 + 1, 5, none⟩ ⟨g5 + 1, 0, none⟩ (.slice A2 p.length c2) (by simp)).trans d0
      have b1 := (World.cell?_setCell_other V2 ⟨g5 + 1, 5, none⟩ ⟨g5 + 1, 1, none⟩ (.slice A2 p.length c2) (by simp)).trans d1
      have b2 := (World.cell?_setCell_other V2 ⟨g5 + 1, 5, none⟩ ⟨g5 + 1, 2, none⟩ (.slice A2 p.length c2) (by simp)).trans d2
      have b3 := (World.cell?_setCell_other V2 ⟨g5 + 1, 5, none⟩ ⟨g5 + 1, 3, none⟩ (.slice A2 p.length c2) (by simp)).trans d3
      have b4 := (World.cell?_setCell_other V2 ⟨g5 + 1, 5, none⟩ ⟨g5 + 1, 4, none⟩ (.slice A2 p.length c2) (by simp)).trans d4
      have b5 := World.cell?_setCell_same V2 ⟨g5 + 1, 5, none⟩ (.slice A2 p.length c2) d5
      have b6 := (World.cell?_setCell_other V2 ⟨g5 + 1, 5, none⟩ ⟨g5 + 1, 6, none⟩ (.slice A2 p.length c2) (by simp)).trans d6
      have b7 := (World.cell?_setCell_other V2 ⟨g5 + 1, 5, none⟩ ⟨g5 + 1, 7, none⟩ (.slice A2 p.length c2) (by simp)).trans d7
      have b8 := (World.cell?_setCell_other V2 ⟨g5 + 1, 5, none⟩ ⟨g5 + 1, 8, none⟩ (.slice A2 p.length c2) (by simp)).trans d8
      have u10 := (World.cell?_setCell_other V2 ⟨g5 + 1, 5, none⟩ ⟨g5, 10, none⟩ (.slice A2 p.length c2) (by simp)).trans v10
      have u3 := (World.cell?_setCell_other V2 ⟨g5 + 1, 5, none⟩ ⟨g5, 3, none⟩ (.slice A2 p.length c2) (by simp)).trans v3
      refine wpAnyH_ready (rs := [9]) (by kernel_rfl) (by simp) ?_
      refine AllReadyH.cons rfl (fun K hK => ?_) (AllReadyH.nil)
      go_simp
      (try dsimp only)
      refine hK.out _ _ ?_ (fun hHeld => ?_)
      · exact ⟨u10, u3⟩
      clear hK K
      (try simp only [Act.put, List.setIfInBounds_toArray, List.set_cons_zero, List.set_cons_succ, List.getElem_toArray, List.getElem_cons_succ, List.getElem_cons_zero])
      refine tk9 10 ?_
      refine tk9 11 ?_
      have HB3 : Hid (Below w.heap.size w (V2.setCell ⟨g5 + 1, 5, none⟩ (.slice A2 p.length c2))) := Lib.hid (HB2.out.setCell (p := ⟨g5 + 1, 5, none⟩) (by show w.heap.size ≤ g5 + 1; omega) _)
      have O3 : Only (g5 + 1) V2 (V2.setCell ⟨g5 + 1, 5, none⟩ (.slice A2 p.length c2)) := (Only.refl _ _).setB _
      generalize (V2.setCell ⟨g5 + 1, 5, none⟩ (.slice A2 p.length c2)) = V3 at *
      clear HB2 d0 d1 d2 d3 d4 d5 d6 d7 d8 f5 f7
      have y0 := (World.cell?_setCell_other V3 ⟨g5 + 1, 7, none⟩ ⟨g5 + 1, 0, none⟩ (.int .i64 e.n) (by simp)).trans b0
      have y1 := (World.cell?_setCell_other V3 ⟨g5 + 1, 7, none⟩ ⟨g5 + 1, 1, none⟩ (.int .i64 e.n) (by simp)).trans b1
      have y2 := (World.cell?_setCell_other V3 ⟨g5 + 1, 7, none⟩ ⟨g5 + 1, 2, none⟩ (.int .i64 e.n) (by simp)).trans b2
      have y3 := (World.cell?_setCell_other V3 ⟨g5 + 1, 7, none⟩ ⟨g5 + 1, 3, none⟩ (.int .i64 e.n) (by simp)).trans b3
      have y4 := (World.cell?_setCell_other V3 ⟨g5 + 1, 7, none⟩ ⟨g5 + 1, 4, none⟩ (.int .i64 e.n) (by simp)).trans b4
      have y5 := (World.cell?_setCell_other V3 ⟨g5 + 1, 7, none⟩ ⟨g5 + 1, 5, none⟩ (.int .i64 e.n) (by simp)).trans b5
      have y6 := (World.cell?_setCell_other V3 ⟨g5 + 1, 7, none⟩ ⟨g5 + 1, 6, none⟩ (.int .i64 e.n) (by simp)).trans b6
      have y7 := World.cell?_setCell_same V3 ⟨g5 + 1, 7, none⟩ (.int .i64 e.n) b7
      have y8 := (World.cell?_setCell_other V3 ⟨g5 + 1, 7, none⟩ ⟨g5 + 1, 8, none⟩ (.int .i64 e.n) (by simp)).trans b8
      have z10 := (World.cell?_setCell_other V3 ⟨g5 + 1, 7, none⟩ ⟨g5, 10, none⟩ (.int .i64 e.n) (by simp)).trans u10
      have z3 := (World.cell?_setCell_other V3 ⟨g5 + 1, 7, none⟩ ⟨g5, 3, none⟩ (.int .i64 e.n) (by simp)).trans u3
      refine wpAnyH_ready (rs := [12]) (by kernel_rfl) (by simp) ?_
      refine AllReadyH.cons rfl (fun K hK => ?_) (AllReadyH.nil)
      go_simp
      (try dsimp only)
      refine hK.out _ _ ?_ (fun hHeld => ?_)
      · exact ⟨z10, z3⟩
      clear hK K
      (try simp only [Act.put, List.setIfInBounds_toArray, List.set_cons_zero, List.set_cons_succ, List.getElem_toArray, List.getElem_cons_succ, List.getElem_cons_zero])
      refine wpAnyH_done (by kernel_rfl) ?_ _
      have HB4 : Hid (Below w.heap.size w (V3.setCell ⟨g5 + 1, 7, none⟩ (.int .i64 e.n))) := Lib.hid (HB3.out.setCell (p := ⟨g5 + 1, 7, none⟩) (by show w.heap.size ≤ g5 + 1; omega) _)
      have O4 : Only (g5 + 1) V2 (V3.setCell ⟨g5 + 1, 7, none⟩ (.int .i64 e.n)) := O3.setB _
      generalize (V3.setCell ⟨g5 + 1, 7, none⟩ (.int .i64 e.n)) = V4 at *
      clear HB3 O3 b0 b1 b2 b3 b4 b5 b6 b7 b8 f7b u10 u3 v10 v3 z10 z3 hHeld
      have hz4 : V2.heap.size ≤ V4.heap.size := O4.size
      have BV2 : ByL V4 A2 p := fun h0 => by
        obtain ⟨B', O', hA', hB', hc'⟩ := HY2.out.1 h0
        have hlo := (HY2.out.2.2 _ hA').1
        exact ⟨B', O', hA', Nat.lt_of_lt_of_le hB' hz4, fun j u hu => (O4.cell B' _ hB' (by show B' ≠ g5 + 1; have : V1.heap.size ≤ B' := hlo; omega)).trans (hc' j u hu)⟩
      have HBV := Lib.hid BV2
      obtain ⟨C, hC⟩ : ∃ C : List Value, C = [.int .i64 e.who, .string e.key, .int .i64 e.tm, .int .i64 e.tc, .int .i64 e.nd, .slice A2 p.length c2, .bool false, .int .i64 e.n, .bool false] := ⟨_, rfl⟩
      have hC9 : C.length = 9 := by rw [hC]; rfl
      have hrg4 : V4.rangeAt (g5 + 1) 0 C := by
        subst hC
        intro j u hu
        rcases j with _ | _ | _ | _ | _ | _ | _ | _ | _ | j
        · cases hu; exact y0
        · cases hu; exact y1
        · cases hu; exact y2
        · cases hu; exact y3
        · cases hu; exact y4
        · cases hu; exact y5
        · cases hu; exact y6
        · cases hu; exact y7
        · cases hu; exact y8
        · cases hu
      have hC1 : ∀ u ∈ C, u.oneCell' = true := by subst hC; simp [Value.oneCell']
      have HNEWS : Hid _ := Lib.hid (World.news_of_block (cs := C.toArray) (t := 37) (fr := (0, 0)) (heap_alloc_new V4 (.cells C.toArray 37)))
      have hrow : (V4.alloc (.cells C.toArray 37)).ownsRow w.heap.size 37 9 (.slice none 0 0) 0 [] := World.ownsRow_nil _ _ _ _
      have HA2 : Hid (Below V4.heap.size V4 (V4.alloc (.cells C.toArray 37))) := Lib.hid ((Below.refl _ _).alloc (Nat.le_refl _) _)
      have hw4 : w.heap.size ≤ V4.heap.size := HB4.out.size
      clear BV2 y0 y1 y2 y3 y4 y5 y6 y7 y8
      go_upto_region 13 with fail
      refine wp_region_lit ?_
      refine wpList_plain rfl (fun KK hKK => ?_)
      go_simp
      refine hKK _ _ ?_
      refine wpList_load_mid rfl 37 (.tmp 6) rfl (g5 + 1) 0 rfl C _ hrg4 Try.underlying37 rfl (by rw [hC9]; kernel_rfl) ?_
      refine wpList_buildSlice rfl 24 37 1 _ rfl C.toArray i0 _ Try.underlying24 hi0 hz0 (by rw [hz1]; omega) (by rw [hz1]; omega) (by rw [Array.toList_map]; exact fill9 i0 hz1 (.agg #[.int .i64 0, .string ⟨#[]⟩, .int .i64 0, .int .i64 0, .int .i64 0, .slice none 0 0, .bool false, .int .i64 0, .bool false]) C hC9) ?_
      refine wpList_append_lies _ rfl (.tmp 70) (.tmp 72) _ rfl w.heap.size 37 i0 _ 9 96 Try.underlying24 hi0 hz0 hz1 hz2 rfl (by decide) (.slice none 0 0) 0 _ rfl hrow ⟨V4.heap.size, 0, none⟩ 1 1 C rfl (by rw [hC9]) HNEWS.out hC1 (by omega) (by unfold maxLen; omega) (by omega) (by simp; omega) _ rfl ?_
      intro g2 cap2 W5 hown2 hg2 hat2 hlt2
      refine wpList_plain rfl (fun KK hKK => ?_)
      go_simp
      refine hKK _ _ ?_
      refine wpList_nil ?_
      rw [hC] at hown2 hg2 HA2
      have BW5 : Below (V4.alloc (.cells #[.int .i64 e.who, .string e.key, .int .i64 e.tm, .int .i64 e.tc, .int .i64 e.nd, .slice A2 p.length c2, .bool false, .int .i64 e.n, .bool false] 37)).heap.size (V4.alloc (.cells #[.int .i64 e.who, .string e.key, .int .i64 e.tm, .int .i64 e.tc, .int .i64 e.nd, .slice A2 p.length c2, .bool false, .int .i64 e.n, .bool false] 37)) W5 := (Below.refl _ _).grown hg2 (by simp) (fun k hk => by simp [Value.ownBlock] at hk)
      have B45 : Below V4.heap.size V4 W5 := HA2.out.trans (BW5.mono HA2.out.size)
      have hlo2 := World.ownsRow.lt hown2 g2 rfl
      have hW1 : W1 w.heap.size W5 e p g2 A2 c2 := by
        refine ⟨row_cell hown2 rfl, row_cell hown2 rfl, row_cell hown2 rfl, row_cell hown2 rfl, row_cell hown2 rfl, row_cell hown2 rfl, row_cell hown2 rfl, row_cell hown2 rfl, row_cell hown2 rfl, hlo2.1, hlo2.2, HBV.out.below B45, HY2.out.2.1, fun ad ha => ?_⟩
        have := HY2.out.2.2 ad ha
        have := B45.size
        exact ⟨by omega, by omega⟩
      have HW1 := Lib.hid hW1
      have HB5 := Lib.hid (HB4.out.trans (B45.mono HB4.out.size))
      clear hown2 hg2 hat2 hlt2 hrow HA2 HNEWS BW5 B45 hW1 hlo2 hrg4 hC1 hC9 hC
      go_wp2_with fail
      go_roundw
      case rel => exact ⟨1, by omega, by simp, .inr ⟨by omega, g2, cap2, A2, c2, by simp, HW1.out⟩, HB5.out⟩
      all_goals ((try simp only [intOf]); omega)
    · as_aux_lemma =>
      have HW1 := Lib.hid hw1
      clear hw1
      by_cases h1 : k < L.length
      · have t1 : decide ((k : Int) < (L.length : Int)) = true := by simpa using h1
        have hki : (k : Int) < (L.length : Int) := by omega
        obtain ⟨e1, he⟩ : ∃ e, L[k]? = some e := ⟨_, List.getElem?_eq_getElem h1⟩
        have hrg := Ev.range (HR.out.below HB.out) he
        have HW := Lib.hid (fun W : World => is_write e1.kd W false (HK.out k e1 hk0 he).symm)
        have H1 := Lib.hid (And.intro h1 hk0)
        obtain ⟨X, hX⟩ : ∃ X : Array Value, e1.cs.toArray = X := ⟨_, rfl⟩
        have x1 : X[1]? = some (.int .i64 e1.kd) := by rw [← hX]; rfl
        have HSZ : Hid (X.size = 18) := Lib.hid (by rw [← hX]; rfl)
        have hone : X.all (·.oneCell') = true := by rw [← hX]; exact e1.one
        have kk : Below wr.heap.size wr (wr.alloc (.cells X 47)) := (Below.refl _ _).alloc (Nat.le_refl _) _
        have HB2 := Lib.hid (HB.out.trans (kk.mono HB.out.size))
        have HW2 := Lib.hid (HW1.out.below kk)
        clear kk
        go_upto_region 4 with fail
        refine wp_region_lit ?_
        refine wpList_plain rfl (fun KK hKK => ?_)
        go_simp
        refine hKK _ _ ?_
        refine wpList_load_mid rfl 47 (.tmp 11) rfl B (O + k * 18) rfl e1.cs _ hrg Try.underlying47 rfl (by kernel_rfl) ?_
        refine wpList_plain rfl (fun KK hKK => ?_)
        go_simp
        refine hKK _ _ ?_
        refine wpList_store_new25 rfl 47 (.tmp 5) (.tmp 12) rfl evZ X rfl rfl (by rw [HSZ.out, ev_info]) (by rw [HSZ.out]; rfl) hone ?_
        refine wpList_nil ?_
        clear hX hrg hone he h1 hk
        go_wp2_with (go_at_call 13; refine (HW.out _).mono ?_; rintro e2 w2 ⟨rfl, rfl⟩)
        go_roundw
        case rel => exact ⟨k + 1, by have := H1.out; omega, by simp, .inr ⟨by omega, g, cap, A', c', rfl, HW2.out⟩, HB2.out⟩
        all_goals ((try simp only [intOf]); have := H1.out; omega)
      · have t1 : decide ((k : Int) < (L.length : Int)) = false := by simp; omega
        clear hk
        go_wp2_with fail
        go_ret
        exact ⟨⟨g, cap, A', c', rfl, HW1.out⟩, HB.out⟩
end Go.Proofs.Ytdjhpajmbddffaa
