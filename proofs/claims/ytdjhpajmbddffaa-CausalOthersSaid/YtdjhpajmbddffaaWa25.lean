/- Stage 25: causal.Writes of any events (written by gen/wa25.py). -/
import Derived.Test.YtdjhpajmbddffaaWm25
set_option linter.unusedSimpArgs false
set_option linter.unusedVariables false
namespace Go.Proofs.Ytdjhpajmbddffaa
open Go.RowKit

set_option maxRecDepth 100000 in
set_option maxHeartbeats 16000000 in
theorem writes_any (B O c : Nat) (L : List Ev) (pv : Nat → List Int) (w : World) (h : RowE w B O L) (hl : L.length ≤ 1000)
    (hE : ∀ k e, L[k]? = some e → e.vl = (pv k).length ∧ ByL w e.A (pv k) ∧ (e.A = none → (pv k).length = 0) ∧ (pv k).length ≤ 100000) :
    Calls Try.prog 7 #[.slice (some ⟨B, O, none⟩) L.length c] w fun e' w' => (∃ v L', e' = .returned v ∧ Ws w.heap.size w' v L' ∧ L'.map Wq.m = wsN L pv L.length) ∧ Below w.heap.size w w' := by
  obtain ⟨i0, hi0, hz0, hz1, hz2⟩ := info_parts wr_info
  have HR := Lib.hid h
  have HEE := Lib.hid hE
  clear h hE
  go_enter Try.func7, Try.ntmps7
  go_wp2_with fail
  go_loopw [9, 3] (fun i v wr => ∃ (k : Nat) (L' : List Wq), k ≤ L.length ∧ i = .int .i64 (k : Int) ∧ Ws w.heap.size wr v L' ∧ L'.map Wq.m = wsN L pv k ∧ L'.length ≤ k ∧ Below w.heap.size w wr) (fun i _ _ => (1001 - intOf i).toNat)
  case atStart => exact ⟨0, [], by omega, by simp, Ws.nil _ _, rfl, by simp, Below.refl _ _⟩
  case round =>
    obtain ⟨k, L', hk, rfl, hws, hmap, hlen, hb⟩ := hrel
    have HB := Lib.hid hb
    have wk : IntKind.i64.wrap ((k : Int) + 1) = (k : Int) + 1 := IntWalk.i64_in _ (by omega)
    obtain ⟨Av, cv, rfl⟩ := row_shapeQ hws.row
    have HWS := Lib.hid hws
    have HMAP := Lib.hid hmap
    clear hb hws hmap
    by_cases h1 : k < L.length
    · have t1 : decide ((k : Int) < (L.length : Int)) = true := by simpa using h1
      have hki : (k : Int) < (L.length : Int) := by omega
      obtain ⟨e, he⟩ : ∃ e, L[k]? = some e := ⟨_, List.getElem?_eq_getElem h1⟩
      have hrg := Ev.range (HR.out.below HB.out) he
      have HE := Lib.hid he
      have H1 := Lib.hid h1
      obtain ⟨hvl, hpb, hpn, hpl⟩ := HEE.out k e he
      have HPB := Lib.hid hpb
      have HPN := Lib.hid hpn
      have HPL := Lib.hid hpl
      clear he h1 hk hpb hpn hpl
      by_cases hq : (e.kd = 1 ∨ e.kd = 2) ∧ (e.er = 0 ∨ e.er = 9)
      · have hcs : (e.kd = 1 ∧ e.er = 0) ∨ (e.kd = 1 ∧ e.er = 9) ∨ (e.kd = 2 ∧ e.er = 0) ∨ (e.kd = 2 ∧ e.er = 9) := by omega
        clear hq
        rcases hcs with ⟨hkd, her⟩ | ⟨hkd, her⟩ | ⟨hkd, her⟩ | ⟨hkd, her⟩
        · as_aux_lemma =>
          have HKD := Lib.hid (And.intro hkd her)
          obtain ⟨X, hX⟩ : ∃ X : Array Value, e.cs.toArray = X := ⟨_, rfl⟩
          have x0 : X[0]? = some (.int .i64 e.who) := by rw [← hX]; simp [Ev.cs, hvl]
          have x1 : X[1]? = some (.int .i64 e.kd) := by rw [← hX]; simp [Ev.cs, hvl]
          have x2 : X[2]? = some (.int .i64 e.nd) := by rw [← hX]; simp [Ev.cs, hvl]
          have x3 : X[3]? = some (.int .i64 e.n) := by rw [← hX]; simp [Ev.cs, hvl]
          have x8 : X[8]? = some (.string e.key) := by rw [← hX]; simp [Ev.cs, hvl]
          have x10 : X[10]? = some (.slice e.A (pv k).length e.vc) := by rw [← hX]; simp [Ev.cs, hvl]
          have x11 : X[11]? = some (.int .i64 e.er) := by rw [← hX]; simp [Ev.cs, hvl]
          have x13 : X[13]? = some (.int .i64 e.tm) := by rw [← hX]; simp [Ev.cs, hvl]
          have x14 : X[14]? = some (.int .i64 e.tc) := by rw [← hX]; simp [Ev.cs, hvl]
          replace x1 : X[1]? = some (.int .i64 1) := by rw [x1, hkd]
          replace x11 : X[11]? = some (.int .i64 0) := by rw [x11, her]
          have HSZ : Hid (X.size = 18) := Lib.hid (by rw [← hX]; rfl)
          have hone : X.all (·.oneCell') = true := by rw [← hX]; exact e.one
          have HX := Lib.hid hX
          clear hX
          have HW := Lib.hid (fun W : World => is_write 1 W true rfl)
          clear hkd her
          go_upto_region 4 with fail
          refine wp_region_lit ?_
          refine wpList_plain rfl (fun KK hKK => ?_)
          go_simp
          refine hKK _ _ ?_
          refine wpList_load_mid rfl 47 (.tmp 11) rfl B (O + k * 18) rfl e.cs _ hrg Try.underlying47 rfl (by kernel_rfl) ?_
          rw [HX.out]
          refine wpList_plain rfl (fun KK hKK => ?_)
          go_simp
          refine hKK _ _ ?_
          refine wpList_store_new25 rfl 47 (.tmp 5) (.tmp 12) rfl evZ X rfl rfl (by rw [HSZ.out, ev_info]) (by rw [HSZ.out]; rfl) hone ?_
          refine wpList_nil ?_
          clear hrg hone HX
          go_upto_region 12 with (go_at_call 13; refine (HW.out _).mono ?_; rintro e2 w2 ⟨rfl, rfl⟩)
          generalize hV0 : (World.alloc (World.alloc wr (.cells X 47)) (.cells _ 37)) = V0
          have k0 : Below wr.heap.size wr V0 := by rw [← hV0]; exact ((Below.refl _ _).alloc (Nat.le_refl _) _).alloc (by simp) _
          have l0 : wr.heap.size + 1 < V0.heap.size := by rw [← hV0]; simp
          have v10 : V0.cell? ⟨wr.heap.size, 10, none⟩ = some (.slice e.A (pv k).length e.vc) := by rw [← hV0]; simp; exact x10
          have v3 : V0.cell? ⟨wr.heap.size, 3, none⟩ = some (.int .i64 e.n) := by rw [← hV0]; simp; exact x3
          have d0 : V0.cell? ⟨wr.heap.size + 1, 0, none⟩ = some (.int .i64 e.who) := by rw [← hV0]; simp
          have d1 : V0.cell? ⟨wr.heap.size + 1, 1, none⟩ = some (.string e.key) := by rw [← hV0]; simp
          have d2 : V0.cell? ⟨wr.heap.size + 1, 2, none⟩ = some (.int .i64 e.tm) := by rw [← hV0]; simp
          have d3 : V0.cell? ⟨wr.heap.size + 1, 3, none⟩ = some (.int .i64 e.tc) := by rw [← hV0]; simp
          have d4 : V0.cell? ⟨wr.heap.size + 1, 4, none⟩ = some (.int .i64 e.nd) := by rw [← hV0]; simp
          have d5 : V0.cell? ⟨wr.heap.size + 1, 5, none⟩ = some (.slice none 0 0) := by rw [← hV0]; simp
          have d6 : V0.cell? ⟨wr.heap.size + 1, 6, none⟩ = some (.bool false) := by rw [← hV0]; simp
          have d7 : V0.cell? ⟨wr.heap.size + 1, 7, none⟩ = some (.int .i64 0) := by rw [← hV0]; simp
          have d8 : V0.cell? ⟨wr.heap.size + 1, 8, none⟩ = some (.bool false) := by rw [← hV0]; simp
          have f5 : V0.frozen? ⟨wr.heap.size + 1, 5, none⟩ = false := by rw [← hV0]; simp
          have f7 : V0.frozen? ⟨wr.heap.size + 1, 7, none⟩ = false := by rw [← hV0]; simp
          have HB0 := Lib.hid k0
          clear hV0 k0 x0 x1 x2 x3 x8 x10 x11 x13 x14
          obtain ⟨g5, hg5⟩ : ∃ g, wr.heap.size = g := ⟨_, rfl⟩
          have HG5 := Lib.hid hg5
          rw [hg5] at l0 v10 v3 d0 d1 d2 d3 d4 d5 d6 d7 d8 f5 f7 ⊢
          clear hg5
          refine wp_region_held_drew (S := fun w' => w'.cell? ⟨g5, 10, none⟩ = some (.slice e.A (pv k).length e.vc) ∧ w'.cell? ⟨g5, 3, none⟩ = some (.int .i64 e.n)) (by kernel_rfl) ?_ (fun hHeld => ?_)
          · exact ⟨v10, v3⟩
          have HB1 := Lib.hid HB0.out.drew
          obtain ⟨V1, hV1⟩ : ∃ V1, V0.drew = V1 := ⟨_, rfl⟩
          have k1 : Below V0.heap.size V0 V1 := by rw [← hV1]; exact (Below.refl _ _).drew
          have l1 := Nat.lt_of_lt_of_le l0 k1.size
          replace v10 := (k1.cell (p := ⟨g5, 10, none⟩) (Nat.lt_of_succ_lt l0)).trans v10
          replace v3 := (k1.cell (p := ⟨g5, 3, none⟩) (Nat.lt_of_succ_lt l0)).trans v3
          replace d0 := (k1.cell (p := ⟨g5 + 1, 0, none⟩) l0).trans d0
          replace d1 := (k1.cell (p := ⟨g5 + 1, 1, none⟩) l0).trans d1
          replace d2 := (k1.cell (p := ⟨g5 + 1, 2, none⟩) l0).trans d2
          replace d3 := (k1.cell (p := ⟨g5 + 1, 3, none⟩) l0).trans d3
          replace d4 := (k1.cell (p := ⟨g5 + 1, 4, none⟩) l0).trans d4
          replace d5 := (k1.cell (p := ⟨g5 + 1, 5, none⟩) l0).trans d5
          replace d6 := (k1.cell (p := ⟨g5 + 1, 6, none⟩) l0).trans d6
          replace d7 := (k1.cell (p := ⟨g5 + 1, 7, none⟩) l0).trans d7
          replace d8 := (k1.cell (p := ⟨g5 + 1, 8, none⟩) l0).trans d8
          replace f5 := (k1.frozen (p := ⟨g5 + 1, 5, none⟩) l0).trans f5
          replace f7 := (k1.frozen (p := ⟨g5 + 1, 7, none⟩) l0).trans f7
          rw [hV1] at HB1 hHeld ⊢
          have HCL := Lib.hid (bytes_clone e.A (pv k) e.vc V1 (HPB.out.below (HB.out.trans (HB1.out.mono HB.out.size))) HPN.out HPL.out)
          clear hV1 k1 HB0 l0
          refine tk9 0 ?_
          refine tk9 1 ?_
          refine tk9 2 ?_
          refine tk9 4 ?_
          refine tk9 5 ?_
          refine tk9 6 ?_
          refine wpAnyH_ready (rs := [3]) (by kernel_rfl) (by simp) ?_
          refine AllReadyH.cons rfl (fun K hK => ?_) (AllReadyH.nil)
          go_simp
          (go_at_call 14; refine HCL.out.mono ?_; rintro e2 V2 ⟨v2, rfl, ho2, k2⟩)
          obtain ⟨A2, c2, rfl, hl2, hby2, hn2, ha2⟩ := own8_shape ho2
          have HB2 := Lib.hid (HB1.out.trans (k2.mono HB1.out.size))
          have l2 := Nat.lt_of_lt_of_le l1 k2.size
          replace v10 := (k2.cell (p := ⟨g5, 10, none⟩) (Nat.lt_of_succ_lt l1)).trans v10
          replace v3 := (k2.cell (p := ⟨g5, 3, none⟩) (Nat.lt_of_succ_lt l1)).trans v3
          replace d0 := (k2.cell (p := ⟨g5 + 1, 0, none⟩) l1).trans d0
          replace d1 := (k2.cell (p := ⟨g5 + 1, 1, none⟩) l1).trans d1
          replace d2 := (k2.cell (p := ⟨g5 + 1, 2, none⟩) l1).trans d2
          replace d3 := (k2.cell (p := ⟨g5 + 1, 3, none⟩) l1).trans d3
          replace d4 := (k2.cell (p := ⟨g5 + 1, 4, none⟩) l1).trans d4
          replace d5 := (k2.cell (p := ⟨g5 + 1, 5, none⟩) l1).trans d5
          replace d6 := (k2.cell (p := ⟨g5 + 1, 6, none⟩) l1).trans d6
          replace d7 := (k2.cell (p := ⟨g5 + 1, 7, none⟩) l1).trans d7
          replace d8 := (k2.cell (p := ⟨g5 + 1, 8, none⟩) l1).trans d8
          replace f5 := (k2.frozen (p := ⟨g5 + 1, 5, none⟩) l1).trans f5
          replace f7 := (k2.frozen (p := ⟨g5 + 1, 7, none⟩) l1).trans f7
          have HY2 := Lib.hid (And.intro hby2 (And.intro hn2 ha2))
          have hgv : g5 ≤ V1.heap.size := by have := HB1.out.size; rw [HG5.out] at this; exact this
          clear k2 ho2 hl2 hby2 hn2 ha2 HCL HB1
          (try dsimp only)
          refine hK.out _ _ ?_ (fun hHeld => ?_)
          · exact ⟨v10, v3⟩
          clear hK K
          (try simp only [Act.put, List.setIfInBounds_toArray, List.set_cons_zero, List.set_cons_succ, List.getElem_toArray, List.getElem_cons_succ, List.getElem_cons_zero])
          refine tk9 7 ?_
          refine tk9 8 ?_
          have f7b : (V2.setCell ⟨g5 + 1, 5, none⟩ (.slice A2 (pv k).length c2)).frozen? ⟨g5 + 1, 7, none⟩ = false := by simpa using f7
          have b0 := (World.cell?_setCell_other V2 ⟨g5 + 1, 5, none⟩ ⟨g5 + 1, 0, none⟩ (.slice A2 (pv k).length c2) (by simp)).trans d0
          have b1 := (World.cell?_setCell_other V2 ⟨g5 + 1, 5, none⟩ ⟨g5 + 1, 1, none⟩ (.slice A2 (pv k).length c2) (by simp)).trans d1
          have b2 := (World.cell?_setCell_other V2 ⟨g5 + 1, 5, none⟩ ⟨g5 + 1, 2, none⟩ (.slice A2 (pv k).length c2) (by simp)).trans d2
          have b3 := (World.cell?_setCell_other V2 ⟨g5 + 1, 5, none⟩ ⟨g5 + 1, 3, none⟩ (.slice A2 (pv k).length c2) (by simp)).trans d3
          have b4 := (World.cell?_setCell_other V2 ⟨g5 + 1, 5, none⟩ ⟨g5 + 1, 4, none⟩ (.slice A2 (pv k).length c2) (by simp)).trans d4
          have b5 := World.cell?_setCell_same V2 ⟨g5 + 1, 5, none⟩ (.slice A2 (pv k).length c2) d5
          have b6 := (World.cell?_setCell_other V2 ⟨g5 + 1, 5, none⟩ ⟨g5 + 1, 6, none⟩ (.slice A2 (pv k).length c2) (by simp)).trans d6
          have b7 := (World.cell?_setCell_other V2 ⟨g5 + 1, 5, none⟩ ⟨g5 + 1, 7, none⟩ (.slice A2 (pv k).length c2) (by simp)).trans d7
          have b8 := (World.cell?_setCell_other V2 ⟨g5 + 1, 5, none⟩ ⟨g5 + 1, 8, none⟩ (.slice A2 (pv k).length c2) (by simp)).trans d8
          have u10 := (World.cell?_setCell_other V2 ⟨g5 + 1, 5, none⟩ ⟨g5, 10, none⟩ (.slice A2 (pv k).length c2) (by simp)).trans v10
          have u3 := (World.cell?_setCell_other V2 ⟨g5 + 1, 5, none⟩ ⟨g5, 3, none⟩ (.slice A2 (pv k).length c2) (by simp)).trans v3
          refine wpAnyH_ready (rs := [9]) (by kernel_rfl) (by simp) ?_
          refine AllReadyH.cons rfl (fun K hK => ?_) (AllReadyH.nil)
          go_simp
          (try dsimp only)
          refine hK.out _ _ ?_ (fun hHeld => ?_)
          · exact ⟨u10, u3⟩
          clear hK K
          (try simp only [Act.put, List.setIfInBounds_toArray, List.set_cons_zero, List.set_cons_succ, List.getElem_toArray, List.getElem_cons_succ, List.getElem_cons_zero])
          refine tk9 10 ?_
          refine tk9 11 ?_
          have HB3 : Hid (Below wr.heap.size wr (V2.setCell ⟨g5 + 1, 5, none⟩ (.slice A2 (pv k).length c2))) := Lib.hid (HB2.out.setCell (p := ⟨g5 + 1, 5, none⟩) (by show wr.heap.size ≤ g5 + 1; have := HG5.out; omega) _)
          have O3 : Only (g5 + 1) V2 (V2.setCell ⟨g5 + 1, 5, none⟩ (.slice A2 (pv k).length c2)) := (Only.refl _ _).setB _
          generalize (V2.setCell ⟨g5 + 1, 5, none⟩ (.slice A2 (pv k).length c2)) = V3 at *
          clear HB2 d0 d1 d2 d3 d4 d5 d6 d7 d8 f5 f7
          have y0 := (World.cell?_setCell_other V3 ⟨g5 + 1, 7, none⟩ ⟨g5 + 1, 0, none⟩ (.int .i64 e.n) (by simp)).trans b0
          have y1 := (World.cell?_setCell_other V3 ⟨g5 + 1, 7, none⟩ ⟨g5 + 1, 1, none⟩ (.int .i64 e.n) (by simp)).trans b1
          have y2 := (World.cell?_setCell_other V3 ⟨g5 + 1, 7, none⟩ ⟨g5 + 1, 2, none⟩ (.int .i64 e.n) (by simp)).trans b2
          have y3 := (World.cell?_setCell_other V3 ⟨g5 + 1, 7, none⟩ ⟨g5 + 1, 3, none⟩ (.int .i64 e.n) (by simp)).trans b3
          have y4 := (World.cell?_setCell_other V3 ⟨g5 + 1, 7, none⟩ ⟨g5 + 1, 4, none⟩ (.int .i64 e.n) (by simp)).trans b4
          have y5 := (World.cell?_setCell_other V3 ⟨g5 + 1, 7, none⟩ ⟨g5 + 1, 5, none⟩ (.int .i64 e.n) (by simp)).trans b5
          have y6 := (World.cell?_setCell_other V3 ⟨g5 + 1, 7, none⟩ ⟨g5 + 1, 6, none⟩ (.int .i64 e.n) (by simp)).trans b6
          have y7 := World.cell?_setCell_same V3 ⟨g5 + 1, 7, none⟩ (.int .i64 e.n) b7
          have y8 := (World.cell?_setCell_other V3 ⟨g5 + 1, 7, none⟩ ⟨g5 + 1, 8, none⟩ (.int .i64 e.n) (by simp)).trans b8
          have z10 := (World.cell?_setCell_other V3 ⟨g5 + 1, 7, none⟩ ⟨g5, 10, none⟩ (.int .i64 e.n) (by simp)).trans u10
          have z3 := (World.cell?_setCell_other V3 ⟨g5 + 1, 7, none⟩ ⟨g5, 3, none⟩ (.int .i64 e.n) (by simp)).trans u3
          refine wpAnyH_ready (rs := [12]) (by kernel_rfl) (by simp) ?_
          refine AllReadyH.cons rfl (fun K hK => ?_) (AllReadyH.nil)
          go_simp
          (try dsimp only)
          refine hK.out _ _ ?_ (fun hHeld => ?_)
          · exact ⟨z10, z3⟩
          clear hK K
          (try simp only [Act.put, List.setIfInBounds_toArray, List.set_cons_zero, List.set_cons_succ, List.getElem_toArray, List.getElem_cons_succ, List.getElem_cons_zero])
          refine wpAnyH_done (by kernel_rfl) ?_ _
          have HB4 : Hid (Below wr.heap.size wr (V3.setCell ⟨g5 + 1, 7, none⟩ (.int .i64 e.n))) := Lib.hid (HB3.out.setCell (p := ⟨g5 + 1, 7, none⟩) (by show wr.heap.size ≤ g5 + 1; have := HG5.out; omega) _)
          have O4 : Only (g5 + 1) V2 (V3.setCell ⟨g5 + 1, 7, none⟩ (.int .i64 e.n)) := O3.setB _
          generalize (V3.setCell ⟨g5 + 1, 7, none⟩ (.int .i64 e.n)) = V4 at *
          clear HB3 O3 b0 b1 b2 b3 b4 b5 b6 b7 b8 f7b u10 u3 v10 v3 z10 z3 hHeld
          have hby : ByL V4 A2 (pv k) := fun h0 => by
            obtain ⟨B', O', hA', hB', hc'⟩ := HY2.out.1 h0
            have hlo := (HY2.out.2.2 _ hA').1
            exact ⟨B', O', hA', Nat.lt_of_lt_of_le hB' O4.size, fun j u hu => (O4.cell B' _ hB' (by show B' ≠ g5 + 1; have : V1.heap.size ≤ B' := hlo; omega)).trans (hc' j u hu)⟩
          have hal : ∀ ad, A2 = some ad → wr.heap.size ≤ ad.block ∧ ad.block < V4.heap.size := fun ad ha => by
            have := HY2.out.2.2 ad ha
            have := O4.size
            have := HG5.out
            exact ⟨by omega, by omega⟩
          have hnl : A2 = none → (pv k).length = 0 := HY2.out.2.1
          obtain ⟨C, hC⟩ : ∃ C : List Value, C = (Wq.mk ⟨e.who, e.key, e.tm, e.tc, e.nd, (pv k), false, e.n, false⟩ A2 c2).cs := ⟨_, rfl⟩
          have hC9 : C.length = 9 := by rw [hC]; rfl
          have hrg4 : V4.rangeAt (g5 + 1) 0 C := by
            subst hC
            intro j u hu
            rcases j with _ | _ | _ | _ | _ | _ | _ | _ | _ | j
            · cases hu; exact y0
            · cases hu; exact y1
            · cases hu; exact y2
            · cases hu; exact y3
            · cases hu; exact y4
            · cases hu; exact y5
            · cases hu; exact y6
            · cases hu; exact y7
            · cases hu; exact y8
            · cases hu
          have hC1 : ∀ u ∈ C, u.oneCell' = true := by subst hC; simp [Wq.cs, Value.oneCell']
          have HNEWS : Hid _ := Lib.hid (World.news_of_block (cs := C.toArray) (t := 37) (fr := (0, 0)) (heap_alloc_new V4 (.cells C.toArray 37)))
          have HW4 := Lib.hid (HWS.out.below HB4.out)
          have hrow := World.ownsRow.alloc HW4.out.row (.cells C.toArray 37)
          have kA : Below V4.heap.size V4 (V4.alloc (.cells C.toArray 37)) := (Below.refl _ _).alloc (Nat.le_refl _) _
          have hw4 : w.heap.size ≤ V4.heap.size := Nat.le_trans HB.out.size HB4.out.size
          have HKA := Lib.hid kA
          have HBY := Lib.hid (And.intro hby (And.intro hal hnl))
          clear kA hby hal hnl y0 y1 y2 y3 y4 y5 y6 y7 y8
          go_upto_region 13 with fail
          refine wp_region_lit ?_
          refine wpList_plain rfl (fun KK hKK => ?_)
          go_simp
          refine hKK _ _ ?_
          refine wpList_load_mid rfl 37 (.tmp 6) rfl (g5 + 1) 0 rfl C _ hrg4 Try.underlying37 rfl (by rw [hC9]; kernel_rfl) ?_
          refine wpList_buildSlice rfl 24 37 1 _ rfl C.toArray i0 _ Try.underlying24 hi0 hz0 (by rw [hz1]; omega) (by rw [hz1]; omega) (by rw [Array.toList_map]; exact fill9 i0 hz1 (.agg #[.int .i64 0, .string ⟨#[]⟩, .int .i64 0, .int .i64 0, .int .i64 0, .slice none 0 0, .bool false, .int .i64 0, .bool false]) C hC9) ?_
          refine wpList_append_lies _ rfl (.tmp 70) (.tmp 72) _ rfl w.heap.size 37 i0 _ 9 96 Try.underlying24 hi0 hz0 hz1 hz2 rfl (by decide) (.slice Av L'.length cv) L'.length (rowQ L') rfl hrow ⟨V4.heap.size, 0, none⟩ 1 1 C rfl (by rw [hC9]) HNEWS.out hC1 (by omega) (by unfold maxLen; omega) (by omega) (by simp; omega) _ rfl ?_
          intro g2 cap2 W5 hown2 hg2 hat2 hlt2
          refine wpList_plain rfl (fun KK hKK => ?_)
          go_simp
          refine hKK _ _ ?_
          refine wpList_nil ?_
          rw [hC] at hown2
          have hlw : ∀ j, (Value.slice Av L'.length cv).ownBlock = some j → w.heap.size ≤ j ∧ j < wr.heap.size := fun j hj => World.ownsRow.lt HWS.out.row j hj
          have HAPP := Lib.hid (Ws.app (x := Wq.mk ⟨e.who, e.key, e.tm, e.tc, e.nd, (pv k), false, e.n, false⟩ A2 c2) (HW4.out.below HKA.out) (HBY.out.1.below HKA.out) HBY.out.2.2 (fun ad ha => ⟨Nat.le_trans HB.out.size (HBY.out.2.1 ad ha).1, Nat.lt_of_lt_of_le (HBY.out.2.1 ad ha).2 HKA.out.size, fun q => by have := (hlw _ q).2; have := (HBY.out.2.1 ad ha).1; omega⟩) hg2 hat2 hown2)
          have HBF := Lib.hid (((HB.out.trans (HB4.out.mono HB.out.size)).trans (HKA.out.mono hw4)).grown hg2 (by simp; omega) (fun j hj => (hlw j hj).1))
          have HMP : Hid ((L' ++ [Wq.mk ⟨e.who, e.key, e.tm, e.tc, e.nd, (pv k), false, e.n, false⟩ A2 c2]).map Wq.m = wsN L pv (k + 1)) := Lib.hid (by rw [List.map_append, HMAP.out, wsN_step HE.out]; simp [wOf, HKD.out.1, HKD.out.2])
          clear hown2 hg2 hat2 hlt2 hrow HKA HNEWS hlw hrg4 hC1 hC9 hC
          go_wp2_with fail
          go_roundw
          case rel => exact ⟨k + 1, L' ++ [Wq.mk ⟨e.who, e.key, e.tm, e.tc, e.nd, (pv k), false, e.n, false⟩ A2 c2], by have := H1.out; omega, by simp, by simpa using HAPP.out, HMP.out, by simp; omega, HBF.out⟩
          all_goals ((try simp only [intOf]); have := H1.out; omega)
        · as_aux_lemma =>
          have HKD := Lib.hid (And.intro hkd her)
          obtain ⟨X, hX⟩ : ∃ X : Array Value, e.cs.toArray = X := ⟨_, rfl⟩
          have x0 : X[0]? = some (.int .i64 e.who) := by rw [← hX]; simp [Ev.cs, hvl]
          have x1 : X[1]? = some (.int .i64 e.kd) := by rw [← hX]; simp [Ev.cs, hvl]
          have x2 : X[2]? = some (.int .i64 e.nd) := by rw [← hX]; simp [Ev.cs, hvl]
          have x3 : X[3]? = some (.int .i64 e.n) := by rw [← hX]; simp [Ev.cs, hvl]
          have x8 : X[8]? = some (.string e.key) := by rw [← hX]; simp [Ev.cs, hvl]
          have x10 : X[10]? = some (.slice e.A (pv k).length e.vc) := by rw [← hX]; simp [Ev.cs, hvl]
          have x11 : X[11]? = some (.int .i64 e.er) := by rw [← hX]; simp [Ev.cs, hvl]
          have x13 : X[13]? = some (.int .i64 e.tm) := by rw [← hX]; simp [Ev.cs, hvl]
          have x14 : X[14]? = some (.int .i64 e.tc) := by rw [← hX]; simp [Ev.cs, hvl]
          replace x1 : X[1]? = some (.int .i64 1) := by rw [x1, hkd]
          replace x11 : X[11]? = some (.int .i64 9) := by rw [x11, her]
          have HSZ : Hid (X.size = 18) := Lib.hid (by rw [← hX]; rfl)
          have hone : X.all (·.oneCell') = true := by rw [← hX]; exact e.one
          have HX := Lib.hid hX
          clear hX
          have HW := Lib.hid (fun W : World => is_write 1 W true rfl)
          clear hkd her
          go_upto_region 4 with fail
          refine wp_region_lit ?_
          refine wpList_plain rfl (fun KK hKK => ?_)
          go_simp
          refine hKK _ _ ?_
          refine wpList_load_mid rfl 47 (.tmp 11) rfl B (O + k * 18) rfl e.cs _ hrg Try.underlying47 rfl (by kernel_rfl) ?_
          rw [HX.out]
          refine wpList_plain rfl (fun KK hKK => ?_)
          go_simp
          refine hKK _ _ ?_
          refine wpList_store_new25 rfl 47 (.tmp 5) (.tmp 12) rfl evZ X rfl rfl (by rw [HSZ.out, ev_info]) (by rw [HSZ.out]; rfl) hone ?_
          refine wpList_nil ?_
          clear hrg hone HX
          go_upto_region 12 with (go_at_call 13; refine (HW.out _).mono ?_; rintro e2 w2 ⟨rfl, rfl⟩)
          generalize hV0 : (World.alloc (World.alloc wr (.cells X 47)) (.cells _ 37)) = V0
          have k0 : Below wr.heap.size wr V0 := by rw [← hV0]; exact ((Below.refl _ _).alloc (Nat.le_refl _) _).alloc (by simp) _
          have l0 : wr.heap.size + 1 < V0.heap.size := by rw [← hV0]; simp
          have v10 : V0.cell? ⟨wr.heap.size, 10, none⟩ = some (.slice e.A (pv k).length e.vc) := by rw [← hV0]; simp; exact x10
          have v3 : V0.cell? ⟨wr.heap.size, 3, none⟩ = some (.int .i64 e.n) := by rw [← hV0]; simp; exact x3
          have d0 : V0.cell? ⟨wr.heap.size + 1, 0, none⟩ = some (.int .i64 e.who) := by rw [← hV0]; simp
          have d1 : V0.cell? ⟨wr.heap.size + 1, 1, none⟩ = some (.string e.key) := by rw [← hV0]; simp
          have d2 : V0.cell? ⟨wr.heap.size + 1, 2, none⟩ = some (.int .i64 0) := by rw [← hV0]; simp
          have d3 : V0.cell? ⟨wr.heap.size + 1, 3, none⟩ = some (.int .i64 0) := by rw [← hV0]; simp
          have d4 : V0.cell? ⟨wr.heap.size + 1, 4, none⟩ = some (.int .i64 e.nd) := by rw [← hV0]; simp
          have d5 : V0.cell? ⟨wr.heap.size + 1, 5, none⟩ = some (.slice none 0 0) := by rw [← hV0]; simp
          have d6 : V0.cell? ⟨wr.heap.size + 1, 6, none⟩ = some (.bool false) := by rw [← hV0]; simp
          have d7 : V0.cell? ⟨wr.heap.size + 1, 7, none⟩ = some (.int .i64 0) := by rw [← hV0]; simp
          have d8 : V0.cell? ⟨wr.heap.size + 1, 8, none⟩ = some (.bool true) := by rw [← hV0]; simp
          have f5 : V0.frozen? ⟨wr.heap.size + 1, 5, none⟩ = false := by rw [← hV0]; simp
          have f7 : V0.frozen? ⟨wr.heap.size + 1, 7, none⟩ = false := by rw [← hV0]; simp
          have HB0 := Lib.hid k0
          clear hV0 k0 x0 x1 x2 x3 x8 x10 x11 x13 x14
          obtain ⟨g5, hg5⟩ : ∃ g, wr.heap.size = g := ⟨_, rfl⟩
          have HG5 := Lib.hid hg5
          rw [hg5] at l0 v10 v3 d0 d1 d2 d3 d4 d5 d6 d7 d8 f5 f7 ⊢
          clear hg5
          refine wp_region_held_drew (S := fun w' => w'.cell? ⟨g5, 10, none⟩ = some (.slice e.A (pv k).length e.vc) ∧ w'.cell? ⟨g5, 3, none⟩ = some (.int .i64 e.n)) (by kernel_rfl) ?_ (fun hHeld => ?_)
          · exact ⟨v10, v3⟩
          have HB1 := Lib.hid HB0.out.drew
          obtain ⟨V1, hV1⟩ : ∃ V1, V0.drew = V1 := ⟨_, rfl⟩
          have k1 : Below V0.heap.size V0 V1 := by rw [← hV1]; exact (Below.refl _ _).drew
          have l1 := Nat.lt_of_lt_of_le l0 k1.size
          replace v10 := (k1.cell (p := ⟨g5, 10, none⟩) (Nat.lt_of_succ_lt l0)).trans v10
          replace v3 := (k1.cell (p := ⟨g5, 3, none⟩) (Nat.lt_of_succ_lt l0)).trans v3
          replace d0 := (k1.cell (p := ⟨g5 + 1, 0, none⟩) l0).trans d0
          replace d1 := (k1.cell (p := ⟨g5 + 1, 1, none⟩) l0).trans d1
          replace d2 := (k1.cell (p := ⟨g5 + 1, 2, none⟩) l0).trans d2
          replace d3 := (k1.cell (p := ⟨g5 + 1, 3, none⟩) l0).trans d3
          replace d4 := (k1.cell (p := ⟨g5 + 1, 4, none⟩) l0).trans d4
          replace d5 := (k1.cell (p := ⟨g5 + 1, 5, none⟩) l0).trans d5
          replace d6 := (k1.cell (p := ⟨g5 + 1, 6, none⟩) l0).trans d6
          replace d7 := (k1.cell (p := ⟨g5 + 1, 7, none⟩) l0).trans d7
          replace d8 := (k1.cell (p := ⟨g5 + 1, 8, none⟩) l0).trans d8
          replace f5 := (k1.frozen (p := ⟨g5 + 1, 5, none⟩) l0).trans f5
          replace f7 := (k1.frozen (p := ⟨g5 + 1, 7, none⟩) l0).trans f7
          rw [hV1] at HB1 hHeld ⊢
          have HCL := Lib.hid (bytes_clone e.A (pv k) e.vc V1 (HPB.out.below (HB.out.trans (HB1.out.mono HB.out.size))) HPN.out HPL.out)
          clear hV1 k1 HB0 l0
          refine tk9 0 ?_
          refine tk9 1 ?_
          refine tk9 2 ?_
          refine tk9 4 ?_
          refine tk9 5 ?_
          refine tk9 6 ?_
          refine wpAnyH_ready (rs := [3]) (by kernel_rfl) (by simp) ?_
          refine AllReadyH.cons rfl (fun K hK => ?_) (AllReadyH.nil)
          go_simp
          (go_at_call 14; refine HCL.out.mono ?_; rintro e2 V2 ⟨v2, rfl, ho2, k2⟩)
          obtain ⟨A2, c2, rfl, hl2, hby2, hn2, ha2⟩ := own8_shape ho2
          have HB2 := Lib.hid (HB1.out.trans (k2.mono HB1.out.size))
          have l2 := Nat.lt_of_lt_of_le l1 k2.size
          replace v10 := (k2.cell (p := ⟨g5, 10, none⟩) (Nat.lt_of_succ_lt l1)).trans v10
          replace v3 := (k2.cell (p := ⟨g5, 3, none⟩) (Nat.lt_of_succ_lt l1)).trans v3
          replace d0 := (k2.cell (p := ⟨g5 + 1, 0, none⟩) l1).trans d0
          replace d1 := (k2.cell (p := ⟨g5 + 1, 1, none⟩) l1).trans d1
          replace d2 := (k2.cell (p := ⟨g5 + 1, 2, none⟩) l1).trans d2
          replace d3 := (k2.cell (p := ⟨g5 + 1, 3, none⟩) l1).trans d3
          replace d4 := (k2.cell (p := ⟨g5 + 1, 4, none⟩) l1).trans d4
          replace d5 := (k2.cell (p := ⟨g5 + 1, 5, none⟩) l1).trans d5
          replace d6 := (k2.cell (p := ⟨g5 + 1, 6, none⟩) l1).trans d6
          replace d7 := (k2.cell (p := ⟨g5 + 1, 7, none⟩) l1).trans d7
          replace d8 := (k2.cell (p := ⟨g5 + 1, 8, none⟩) l1).trans d8
          replace f5 := (k2.frozen (p := ⟨g5 + 1, 5, none⟩) l1).trans f5
          replace f7 := (k2.frozen (p := ⟨g5 + 1, 7, none⟩) l1).trans f7
          have HY2 := Lib.hid (And.intro hby2 (And.intro hn2 ha2))
          have hgv : g5 ≤ V1.heap.size := by have := HB1.out.size; rw [HG5.out] at this; exact this
          clear k2 ho2 hl2 hby2 hn2 ha2 HCL HB1
          (try dsimp only)
          refine hK.out _ _ ?_ (fun hHeld => ?_)
          · exact ⟨v10, v3⟩
          clear hK K
          (try simp only [Act.put, List.setIfInBounds_toArray, List.set_cons_zero, List.set_cons_succ, List.getElem_toArray, List.getElem_cons_succ, List.getElem_cons_zero])
          refine tk9 7 ?_
          refine tk9 8 ?_
          have f7b : (V2.setCell ⟨g5 + 1, 5, none⟩ (.slice A2 (pv k).length c2)).frozen? ⟨g5 + 1, 7, none⟩ = false := by simpa using f7
          have b0 := (World.cell?_setCell_other V2 ⟨g5 + 1, 5, none⟩ ⟨g5 + 1, 0, none⟩ (.slice A2 (pv k).length c2) (by simp)).trans d0
          have b1 := (World.cell?_setCell_other V2 ⟨g5 + 1, 5, none⟩ ⟨g5 + 1, 1, none⟩ (.slice A2 (pv k).length c2) (by simp)).trans d1
          have b2 := (World.cell?_setCell_other V2 ⟨g5 + 1, 5, none⟩ ⟨g5 + 1, 2, none⟩ (.slice A2 (pv k).length c2) (by simp)).trans d2
          have b3 := (World.cell?_setCell_other V2 ⟨g5 + 1, 5, none⟩ ⟨g5 + 1, 3, none⟩ (.slice A2 (pv k).length c2) (by simp)).trans d3
          have b4 := (World.cell?_setCell_other V2 ⟨g5 + 1, 5, none⟩ ⟨g5 + 1, 4, none⟩ (.slice A2 (pv k).length c2) (by simp)).trans d4
          have b5 := World.cell?_setCell_same V2 ⟨g5 + 1, 5, none⟩ (.slice A2 (pv k).length c2) d5
          have b6 := (World.cell?_setCell_other V2 ⟨g5 + 1, 5, none⟩ ⟨g5 + 1, 6, none⟩ (.slice A2 (pv k).length c2) (by simp)).trans d6
          have b7 := (World.cell?_setCell_other V2 ⟨g5 + 1, 5, none⟩ ⟨g5 + 1, 7, none⟩ (.slice A2 (pv k).length c2) (by simp)).trans d7
          have b8 := (World.cell?_setCell_other V2 ⟨g5 + 1, 5, none⟩ ⟨g5 + 1, 8, none⟩ (.slice A2 (pv k).length c2) (by simp)).trans d8
          have u10 := (World.cell?_setCell_other V2 ⟨g5 + 1, 5, none⟩ ⟨g5, 10, none⟩ (.slice A2 (pv k).length c2) (by simp)).trans v10
          have u3 := (World.cell?_setCell_other V2 ⟨g5 + 1, 5, none⟩ ⟨g5, 3, none⟩ (.slice A2 (pv k).length c2) (by simp)).trans v3
          refine wpAnyH_ready (rs := [9]) (by kernel_rfl) (by simp) ?_
          refine AllReadyH.cons rfl (fun K hK => ?_) (AllReadyH.nil)
          go_simp
          (try dsimp only)
          refine hK.out _ _ ?_ (fun hHeld => ?_)
          · exact ⟨u10, u3⟩
          clear hK K
          (try simp only [Act.put, List.setIfInBounds_toArray, List.set_cons_zero, List.set_cons_succ, List.getElem_toArray, List.getElem_cons_succ, List.getElem_cons_zero])
          refine tk9 10 ?_
          refine tk9 11 ?_
          have HB3 : Hid (Below wr.heap.size wr (V2.setCell ⟨g5 + 1, 5, none⟩ (.slice A2 (pv k).length c2))) := Lib.hid (HB2.out.setCell (p := ⟨g5 + 1, 5, none⟩) (by show wr.heap.size ≤ g5 + 1; have := HG5.out; omega) _)
          have O3 : Only (g5 + 1) V2 (V2.setCell ⟨g5 + 1, 5, none⟩ (.slice A2 (pv k).length c2)) := (Only.refl _ _).setB _
          generalize (V2.setCell ⟨g5 + 1, 5, none⟩ (.slice A2 (pv k).length c2)) = V3 at *
          clear HB2 d0 d1 d2 d3 d4 d5 d6 d7 d8 f5 f7
          have y0 := (World.cell?_setCell_other V3 ⟨g5 + 1, 7, none⟩ ⟨g5 + 1, 0, none⟩ (.int .i64 e.n) (by simp)).trans b0
          have y1 := (World.cell?_setCell_other V3 ⟨g5 + 1, 7, none⟩ ⟨g5 + 1, 1, none⟩ (.int .i64 e.n) (by simp)).trans b1
          have y2 := (World.cell?_setCell_other V3 ⟨g5 + 1, 7, none⟩ ⟨g5 + 1, 2, none⟩ (.int .i64 e.n) (by simp)).trans b2
          have y3 := (World.cell?_setCell_other V3 ⟨g5 + 1, 7, none⟩ ⟨g5 + 1, 3, none⟩ (.int .i64 e.n) (by simp)).trans b3
          have y4 := (World.cell?_setCell_other V3 ⟨g5 + 1, 7, none⟩ ⟨g5 + 1, 4, none⟩ (.int .i64 e.n) (by simp)).trans b4
          have y5 := (World.cell?_setCell_other V3 ⟨g5 + 1, 7, none⟩ ⟨g5 + 1, 5, none⟩ (.int .i64 e.n) (by simp)).trans b5
          have y6 := (World.cell?_setCell_other V3 ⟨g5 + 1, 7, none⟩ ⟨g5 + 1, 6, none⟩ (.int .i64 e.n) (by simp)).trans b6
          have y7 := World.cell?_setCell_same V3 ⟨g5 + 1, 7, none⟩ (.int .i64 e.n) b7
          have y8 := (World.cell?_setCell_other V3 ⟨g5 + 1, 7, none⟩ ⟨g5 + 1, 8, none⟩ (.int .i64 e.n) (by simp)).trans b8
          have z10 := (World.cell?_setCell_other V3 ⟨g5 + 1, 7, none⟩ ⟨g5, 10, none⟩ (.int .i64 e.n) (by simp)).trans u10
          have z3 := (World.cell?_setCell_other V3 ⟨g5 + 1, 7, none⟩ ⟨g5, 3, none⟩ (.int .i64 e.n) (by simp)).trans u3
          refine wpAnyH_ready (rs := [12]) (by kernel_rfl) (by simp) ?_
          refine AllReadyH.cons rfl (fun K hK => ?_) (AllReadyH.nil)
          go_simp
          (try dsimp only)
          refine hK.out _ _ ?_ (fun hHeld => ?_)
          · exact ⟨z10, z3⟩
          clear hK K
          (try simp only [Act.put, List.setIfInBounds_toArray, List.set_cons_zero, List.set_cons_succ, List.getElem_toArray, List.getElem_cons_succ, List.getElem_cons_zero])
          refine wpAnyH_done (by kernel_rfl) ?_ _
          have HB4 : Hid (Below wr.heap.size wr (V3.setCell ⟨g5 + 1, 7, none⟩ (.int .i64 e.n))) := Lib.hid (HB3.out.setCell (p := ⟨g5 + 1, 7, none⟩) (by show wr.heap.size ≤ g5 + 1; have := HG5.out; omega) _)
          have O4 : Only (g5 + 1) V2 (V3.setCell ⟨g5 + 1, 7, none⟩ (.int .i64 e.n)) := O3.setB _
          generalize (V3.setCell ⟨g5 + 1, 7, none⟩ (.int .i64 e.n)) = V4 at *
          clear HB3 O3 b0 b1 b2 b3 b4 b5 b6 b7 b8 f7b u10 u3 v10 v3 z10 z3 hHeld
          have hby : ByL V4 A2 (pv k) := fun h0 => by
            obtain ⟨B', O', hA', hB', hc'⟩ := HY2.out.1 h0
            have hlo := (HY2.out.2.2 _ hA').1
            exact ⟨B', O', hA', Nat.lt_of_lt_of_le hB' O4.size, fun j u hu => (O4.cell B' _ hB' (by show B' ≠ g5 + 1; have : V1.heap.size ≤ B' := hlo; omega)).trans (hc' j u hu)⟩
          have hal : ∀ ad, A2 = some ad → wr.heap.size ≤ ad.block ∧ ad.block < V4.heap.size := fun ad ha => by
            have := HY2.out.2.2 ad ha
            have := O4.size
            have := HG5.out
            exact ⟨by omega, by omega⟩
          have hnl : A2 = none → (pv k).length = 0 := HY2.out.2.1
          obtain ⟨C, hC⟩ : ∃ C : List Value, C = (Wq.mk ⟨e.who, e.key, 0, 0, e.nd, (pv k), false, e.n, true⟩ A2 c2).cs := ⟨_, rfl⟩
          have hC9 : C.length = 9 := by rw [hC]; rfl
          have hrg4 : V4.rangeAt (g5 + 1) 0 C := by
            subst hC
            intro j u hu
            rcases j with _ | _ | _ | _ | _ | _ | _ | _ | _ | j
            · cases hu; exact y0
            · cases hu; exact y1
            · cases hu; exact y2
            · cases hu; exact y3
            · cases hu; exact y4
            · cases hu; exact y5
            · cases hu; exact y6
            · cases hu; exact y7
            · cases hu; exact y8
            · cases hu
          have hC1 : ∀ u ∈ C, u.oneCell' = true := by subst hC; simp [Wq.cs, Value.oneCell']
          have HNEWS : Hid _ := Lib.hid (World.news_of_block (cs := C.toArray) (t := 37) (fr := (0, 0)) (heap_alloc_new V4 (.cells C.toArray 37)))
          have HW4 := Lib.hid (HWS.out.below HB4.out)
          have hrow := World.ownsRow.alloc HW4.out.row (.cells C.toArray 37)
          have kA : Below V4.heap.size V4 (V4.alloc (.cells C.toArray 37)) := (Below.refl _ _).alloc (Nat.le_refl _) _
          have hw4 : w.heap.size ≤ V4.heap.size := Nat.le_trans HB.out.size HB4.out.size
          have HKA := Lib.hid kA
          have HBY := Lib.hid (And.intro hby (And.intro hal hnl))
          clear kA hby hal hnl y0 y1 y2 y3 y4 y5 y6 y7 y8
          go_upto_region 13 with fail
          refine wp_region_lit ?_
          refine wpList_plain rfl (fun KK hKK => ?_)
          go_simp
          refine hKK _ _ ?_
          refine wpList_load_mid rfl 37 (.tmp 6) rfl (g5 + 1) 0 rfl C _ hrg4 Try.underlying37 rfl (by rw [hC9]; kernel_rfl) ?_
          refine wpList_buildSlice rfl 24 37 1 _ rfl C.toArray i0 _ Try.underlying24 hi0 hz0 (by rw [hz1]; omega) (by rw [hz1]; omega) (by rw [Array.toList_map]; exact fill9 i0 hz1 (.agg #[.int .i64 0, .string ⟨#[]⟩, .int .i64 0, .int .i64 0, .int .i64 0, .slice none 0 0, .bool false, .int .i64 0, .bool false]) C hC9) ?_
          refine wpList_append_lies _ rfl (.tmp 70) (.tmp 72) _ rfl w.heap.size 37 i0 _ 9 96 Try.underlying24 hi0 hz0 hz1 hz2 rfl (by decide) (.slice Av L'.length cv) L'.length (rowQ L') rfl hrow ⟨V4.heap.size, 0, none⟩ 1 1 C rfl (by rw [hC9]) HNEWS.out hC1 (by omega) (by unfold maxLen; omega) (by omega) (by simp; omega) _ rfl ?_
          intro g2 cap2 W5 hown2 hg2 hat2 hlt2
          refine wpList_plain rfl (fun KK hKK => ?_)
          go_simp
          refine hKK _ _ ?_
          refine wpList_nil ?_
          rw [hC] at hown2
          have hlw : ∀ j, (Value.slice Av L'.length cv).ownBlock = some j → w.heap.size ≤ j ∧ j < wr.heap.size := fun j hj => World.ownsRow.lt HWS.out.row j hj
          have HAPP := Lib.hid (Ws.app (x := Wq.mk ⟨e.who, e.key, 0, 0, e.nd, (pv k), false, e.n, true⟩ A2 c2) (HW4.out.below HKA.out) (HBY.out.1.below HKA.out) HBY.out.2.2 (fun ad ha => ⟨Nat.le_trans HB.out.size (HBY.out.2.1 ad ha).1, Nat.lt_of_lt_of_le (HBY.out.2.1 ad ha).2 HKA.out.size, fun q => by have := (hlw _ q).2; have := (HBY.out.2.1 ad ha).1; omega⟩) hg2 hat2 hown2)
          have HBF := Lib.hid (((HB.out.trans (HB4.out.mono HB.out.size)).trans (HKA.out.mono hw4)).grown hg2 (by simp; omega) (fun j hj => (hlw j hj).1))
          have HMP : Hid ((L' ++ [Wq.mk ⟨e.who, e.key, 0, 0, e.nd, (pv k), false, e.n, true⟩ A2 c2]).map Wq.m = wsN L pv (k + 1)) := Lib.hid (by rw [List.map_append, HMAP.out, wsN_step HE.out]; simp [wOf, HKD.out.1, HKD.out.2])
          clear hown2 hg2 hat2 hlt2 hrow HKA HNEWS hlw hrg4 hC1 hC9 hC
          go_wp2_with fail
          go_roundw
          case rel => exact ⟨k + 1, L' ++ [Wq.mk ⟨e.who, e.key, 0, 0, e.nd, (pv k), false, e.n, true⟩ A2 c2], by have := H1.out; omega, by simp, by simpa using HAPP.out, HMP.out, by simp; omega, HBF.out⟩
          all_goals ((try simp only [intOf]); have := H1.out; omega)
        · as_aux_lemma =>
          have HKD := Lib.hid (And.intro hkd her)
          obtain ⟨X, hX⟩ : ∃ X : Array Value, e.cs.toArray = X := ⟨_, rfl⟩
          have x0 : X[0]? = some (.int .i64 e.who) := by rw [← hX]; simp [Ev.cs, hvl]
          have x1 : X[1]? = some (.int .i64 e.kd) := by rw [← hX]; simp [Ev.cs, hvl]
          have x2 : X[2]? = some (.int .i64 e.nd) := by rw [← hX]; simp [Ev.cs, hvl]
          have x3 : X[3]? = some (.int .i64 e.n) := by rw [← hX]; simp [Ev.cs, hvl]
          have x8 : X[8]? = some (.string e.key) := by rw [← hX]; simp [Ev.cs, hvl]
          have x10 : X[10]? = some (.slice e.A (pv k).length e.vc) := by rw [← hX]; simp [Ev.cs, hvl]
          have x11 : X[11]? = some (.int .i64 e.er) := by rw [← hX]; simp [Ev.cs, hvl]
          have x13 : X[13]? = some (.int .i64 e.tm) := by rw [← hX]; simp [Ev.cs, hvl]
          have x14 : X[14]? = some (.int .i64 e.tc) := by rw [← hX]; simp [Ev.cs, hvl]
          replace x1 : X[1]? = some (.int .i64 2) := by rw [x1, hkd]
          replace x11 : X[11]? = some (.int .i64 0) := by rw [x11, her]
          have HSZ : Hid (X.size = 18) := Lib.hid (by rw [← hX]; rfl)
          have hone : X.all (·.oneCell') = true := by rw [← hX]; exact e.one
          have HX := Lib.hid hX
          clear hX
          have HW := Lib.hid (fun W : World => is_write 2 W true rfl)
          clear hkd her
          go_upto_region 4 with fail
          refine wp_region_lit ?_
          refine wpList_plain rfl (fun KK hKK => ?_)
          go_simp
          refine hKK _ _ ?_
          refine wpList_load_mid rfl 47 (.tmp 11) rfl B (O + k * 18) rfl e.cs _ hrg Try.underlying47 rfl (by kernel_rfl) ?_
          rw [HX.out]
          refine wpList_plain rfl (fun KK hKK => ?_)
          go_simp
          refine hKK _ _ ?_
          refine wpList_store_new25 rfl 47 (.tmp 5) (.tmp 12) rfl evZ X rfl rfl (by rw [HSZ.out, ev_info]) (by rw [HSZ.out]; rfl) hone ?_
          refine wpList_nil ?_
          clear hrg hone HX
          go_upto_region 13 with (go_at_call 13; refine (HW.out _).mono ?_; rintro e2 w2 ⟨rfl, rfl⟩)
          generalize hV0 : (World.alloc (World.alloc wr (.cells X 47)) (.cells _ 37)) = V0
          have k0 : Below wr.heap.size wr V0 := by rw [← hV0]; exact ((Below.refl _ _).alloc (Nat.le_refl _) _).alloc (by simp) _
          have l0 : wr.heap.size + 1 < V0.heap.size := by rw [← hV0]; simp
          have d0 : V0.cell? ⟨wr.heap.size + 1, 0, none⟩ = some (.int .i64 e.who) := by rw [← hV0]; simp
          have d1 : V0.cell? ⟨wr.heap.size + 1, 1, none⟩ = some (.string e.key) := by rw [← hV0]; simp
          have d2 : V0.cell? ⟨wr.heap.size + 1, 2, none⟩ = some (.int .i64 e.tm) := by rw [← hV0]; simp
          have d3 : V0.cell? ⟨wr.heap.size + 1, 3, none⟩ = some (.int .i64 e.tc) := by rw [← hV0]; simp
          have d4 : V0.cell? ⟨wr.heap.size + 1, 4, none⟩ = some (.int .i64 e.nd) := by rw [← hV0]; simp
          have d5 : V0.cell? ⟨wr.heap.size + 1, 5, none⟩ = some (.slice none 0 0) := by rw [← hV0]; simp
          have d6 : V0.cell? ⟨wr.heap.size + 1, 6, none⟩ = some (.bool true) := by rw [← hV0]; simp
          have d7 : V0.cell? ⟨wr.heap.size + 1, 7, none⟩ = some (.int .i64 0) := by rw [← hV0]; simp
          have d8 : V0.cell? ⟨wr.heap.size + 1, 8, none⟩ = some (.bool false) := by rw [← hV0]; simp
          have HB0 := Lib.hid k0
          clear hV0 k0 x0 x1 x2 x3 x8 x10 x11 x13 x14
          obtain ⟨g5, hg5⟩ : ∃ g, wr.heap.size = g := ⟨_, rfl⟩
          have HG5 := Lib.hid hg5
          rw [hg5] at l0 d0 d1 d2 d3 d4 d5 d6 d7 d8 ⊢
          clear hg5
          obtain ⟨V4, hV4⟩ : ∃ V, V0 = V := ⟨_, rfl⟩
          subst hV4
          have HB4 := HB0
          obtain ⟨A2, hA2⟩ : ∃ A : Option Addr, A = none := ⟨_, rfl⟩
          obtain ⟨c2, hc2⟩ : ∃ c : Nat, c = 0 := ⟨_, rfl⟩
          replace d5 : V0.cell? ⟨g5 + 1, 5, none⟩ = some (.slice A2 0 c2) := by rw [hA2, hc2]; exact d5
          have hby : ByL V0 A2 [] := ByL.nil _ _
          have hal : ∀ ad, A2 = some ad → wr.heap.size ≤ ad.block ∧ ad.block < V0.heap.size := fun ad ha => by rw [hA2] at ha; cases ha
          have hnl : A2 = none → ([] : List Int).length = 0 := fun _ => rfl
          clear hA2 hc2 l0
          obtain ⟨C, hC⟩ : ∃ C : List Value, C = (Wq.mk ⟨e.who, e.key, e.tm, e.tc, e.nd, [], true, 0, false⟩ A2 c2).cs := ⟨_, rfl⟩
          have hC9 : C.length = 9 := by rw [hC]; rfl
          have hrg4 : V0.rangeAt (g5 + 1) 0 C := by
            subst hC
            intro j u hu
            rcases j with _ | _ | _ | _ | _ | _ | _ | _ | _ | j
            · cases hu; exact d0
            · cases hu; exact d1
            · cases hu; exact d2
            · cases hu; exact d3
            · cases hu; exact d4
            · cases hu; exact d5
            · cases hu; exact d6
            · cases hu; exact d7
            · cases hu; exact d8
            · cases hu
          have hC1 : ∀ u ∈ C, u.oneCell' = true := by subst hC; simp [Wq.cs, Value.oneCell']
          have HNEWS : Hid _ := Lib.hid (World.news_of_block (cs := C.toArray) (t := 37) (fr := (0, 0)) (heap_alloc_new V0 (.cells C.toArray 37)))
          have HW4 := Lib.hid (HWS.out.below HB4.out)
          have hrow := World.ownsRow.alloc HW4.out.row (.cells C.toArray 37)
          have kA : Below V0.heap.size V0 (V0.alloc (.cells C.toArray 37)) := (Below.refl _ _).alloc (Nat.le_refl _) _
          have hw4 : w.heap.size ≤ V0.heap.size := Nat.le_trans HB.out.size HB4.out.size
          have HKA := Lib.hid kA
          have HBY := Lib.hid (And.intro hby (And.intro hal hnl))
          clear kA hby hal hnl d0 d1 d2 d3 d4 d5 d6 d7 d8
          go_upto_region 13 with fail
          refine wp_region_lit ?_
          refine wpList_plain rfl (fun KK hKK => ?_)
          go_simp
          refine hKK _ _ ?_
          refine wpList_load_mid rfl 37 (.tmp 6) rfl (g5 + 1) 0 rfl C _ hrg4 Try.underlying37 rfl (by rw [hC9]; kernel_rfl) ?_
          refine wpList_buildSlice rfl 24 37 1 _ rfl C.toArray i0 _ Try.underlying24 hi0 hz0 (by rw [hz1]; omega) (by rw [hz1]; omega) (by rw [Array.toList_map]; exact fill9 i0 hz1 (.agg #[.int .i64 0, .string ⟨#[]⟩, .int .i64 0, .int .i64 0, .int .i64 0, .slice none 0 0, .bool false, .int .i64 0, .bool false]) C hC9) ?_
          refine wpList_append_lies _ rfl (.tmp 70) (.tmp 72) _ rfl w.heap.size 37 i0 _ 9 96 Try.underlying24 hi0 hz0 hz1 hz2 rfl (by decide) (.slice Av L'.length cv) L'.length (rowQ L') rfl hrow ⟨V0.heap.size, 0, none⟩ 1 1 C rfl (by rw [hC9]) HNEWS.out hC1 (by omega) (by unfold maxLen; omega) (by omega) (by simp; omega) _ rfl ?_
          intro g2 cap2 W5 hown2 hg2 hat2 hlt2
          refine wpList_plain rfl (fun KK hKK => ?_)
          go_simp
          refine hKK _ _ ?_
          refine wpList_nil ?_
          rw [hC] at hown2
          have hlw : ∀ j, (Value.slice Av L'.length cv).ownBlock = some j → w.heap.size ≤ j ∧ j < wr.heap.size := fun j hj => World.ownsRow.lt HWS.out.row j hj
          have HAPP := Lib.hid (Ws.app (x := Wq.mk ⟨e.who, e.key, e.tm, e.tc, e.nd, [], true, 0, false⟩ A2 c2) (HW4.out.below HKA.out) (HBY.out.1.below HKA.out) HBY.out.2.2 (fun ad ha => ⟨Nat.le_trans HB.out.size (HBY.out.2.1 ad ha).1, Nat.lt_of_lt_of_le (HBY.out.2.1 ad ha).2 HKA.out.size, fun q => by have := (hlw _ q).2; have := (HBY.out.2.1 ad ha).1; omega⟩) hg2 hat2 hown2)
          have HBF := Lib.hid (((HB.out.trans (HB4.out.mono HB.out.size)).trans (HKA.out.mono hw4)).grown hg2 (by simp; omega) (fun j hj => (hlw j hj).1))
          have HMP : Hid ((L' ++ [Wq.mk ⟨e.who, e.key, e.tm, e.tc, e.nd, [], true, 0, false⟩ A2 c2]).map Wq.m = wsN L pv (k + 1)) := Lib.hid (by rw [List.map_append, HMAP.out, wsN_step HE.out]; simp [wOf, HKD.out.1, HKD.out.2])
          clear hown2 hg2 hat2 hlt2 hrow HKA HNEWS hlw hrg4 hC1 hC9 hC
          go_wp2_with fail
          go_roundw
          case rel => exact ⟨k + 1, L' ++ [Wq.mk ⟨e.who, e.key, e.tm, e.tc, e.nd, [], true, 0, false⟩ A2 c2], by have := H1.out; omega, by simp, by simpa using HAPP.out, HMP.out, by simp; omega, HBF.out⟩
          all_goals ((try simp only [intOf]); have := H1.out; omega)
        · as_aux_lemma =>
          have HKD := Lib.hid (And.intro hkd her)
          obtain ⟨X, hX⟩ : ∃ X : Array Value, e.cs.toArray = X := ⟨_, rfl⟩
          have x0 : X[0]? = some (.int .i64 e.who) := by rw [← hX]; simp [Ev.cs, hvl]
          have x1 : X[1]? = some (.int .i64 e.kd) := by rw [← hX]; simp [Ev.cs, hvl]
          have x2 : X[2]? = some (.int .i64 e.nd) := by rw [← hX]; simp [Ev.cs, hvl]
          have x3 : X[3]? = some (.int .i64 e.n) := by rw [← hX]; simp [Ev.cs, hvl]
          have x8 : X[8]? = some (.string e.key) := by rw [← hX]; simp [Ev.cs, hvl]
          have x10 : X[10]? = some (.slice e.A (pv k).length e.vc) := by rw [← hX]; simp [Ev.cs, hvl]
          have x11 : X[11]? = some (.int .i64 e.er) := by rw [← hX]; simp [Ev.cs, hvl]
          have x13 : X[13]? = some (.int .i64 e.tm) := by rw [← hX]; simp [Ev.cs, hvl]
          have x14 : X[14]? = some (.int .i64 e.tc) := by rw [← hX]; simp [Ev.cs, hvl]
          replace x1 : X[1]? = some (.int .i64 2) := by rw [x1, hkd]
          replace x11 : X[11]? = some (.int .i64 9) := by rw [x11, her]
          have HSZ : Hid (X.size = 18) := Lib.hid (by rw [← hX]; rfl)
          have hone : X.all (·.oneCell') = true := by rw [← hX]; exact e.one
          have HX := Lib.hid hX
          clear hX
          have HW := Lib.hid (fun W : World => is_write 2 W true rfl)
          clear hkd her
          go_upto_region 4 with fail
          refine wp_region_lit ?_
          refine wpList_plain rfl (fun KK hKK => ?_)
          go_simp
          refine hKK _ _ ?_
          refine wpList_load_mid rfl 47 (.tmp 11) rfl B (O + k * 18) rfl e.cs _ hrg Try.underlying47 rfl (by kernel_rfl) ?_
          rw [HX.out]
          refine wpList_plain rfl (fun KK hKK => ?_)
          go_simp
          refine hKK _ _ ?_
          refine wpList_store_new25 rfl 47 (.tmp 5) (.tmp 12) rfl evZ X rfl rfl (by rw [HSZ.out, ev_info]) (by rw [HSZ.out]; rfl) hone ?_
          refine wpList_nil ?_
          clear hrg hone HX
          go_upto_region 13 with (go_at_call 13; refine (HW.out _).mono ?_; rintro e2 w2 ⟨rfl, rfl⟩)
          generalize hV0 : (World.alloc (World.alloc wr (.cells X 47)) (.cells _ 37)) = V0
          have k0 : Below wr.heap.size wr V0 := by rw [← hV0]; exact ((Below.refl _ _).alloc (Nat.le_refl _) _).alloc (by simp) _
          have l0 : wr.heap.size + 1 < V0.heap.size := by rw [← hV0]; simp
          have d0 : V0.cell? ⟨wr.heap.size + 1, 0, none⟩ = some (.int .i64 e.who) := by rw [← hV0]; simp
          have d1 : V0.cell? ⟨wr.heap.size + 1, 1, none⟩ = some (.string e.key) := by rw [← hV0]; simp
          have d2 : V0.cell? ⟨wr.heap.size + 1, 2, none⟩ = some (.int .i64 0) := by rw [← hV0]; simp
          have d3 : V0.cell? ⟨wr.heap.size + 1, 3, none⟩ = some (.int .i64 0) := by rw [← hV0]; simp
          have d4 : V0.cell? ⟨wr.heap.size + 1, 4, none⟩ = some (.int .i64 e.nd) := by rw [← hV0]; simp
          have d5 : V0.cell? ⟨wr.heap.size + 1, 5, none⟩ = some (.slice none 0 0) := by rw [← hV0]; simp
          have d6 : V0.cell? ⟨wr.heap.size + 1, 6, none⟩ = some (.bool true) := by rw [← hV0]; simp
          have d7 : V0.cell? ⟨wr.heap.size + 1, 7, none⟩ = some (.int .i64 0) := by rw [← hV0]; simp
          have d8 : V0.cell? ⟨wr.heap.size + 1, 8, none⟩ = some (.bool true) := by rw [← hV0]; simp
          have HB0 := Lib.hid k0
          clear hV0 k0 x0 x1 x2 x3 x8 x10 x11 x13 x14
          obtain ⟨g5, hg5⟩ : ∃ g, wr.heap.size = g := ⟨_, rfl⟩
          have HG5 := Lib.hid hg5
          rw [hg5] at l0 d0 d1 d2 d3 d4 d5 d6 d7 d8 ⊢
          clear hg5
          obtain ⟨V4, hV4⟩ : ∃ V, V0 = V := ⟨_, rfl⟩
          subst hV4
          have HB4 := HB0
          obtain ⟨A2, hA2⟩ : ∃ A : Option Addr, A = none := ⟨_, rfl⟩
          obtain ⟨c2, hc2⟩ : ∃ c : Nat, c = 0 := ⟨_, rfl⟩
          replace d5 : V0.cell? ⟨g5 + 1, 5, none⟩ = some (.slice A2 0 c2) := by rw [hA2, hc2]; exact d5
          have hby : ByL V0 A2 [] := ByL.nil _ _
          have hal : ∀ ad, A2 = some ad → wr.heap.size ≤ ad.block ∧ ad.block < V0.heap.size := fun ad ha => by rw [hA2] at ha; cases ha
          have hnl : A2 = none → ([] : List Int).length = 0 := fun _ => rfl
          clear hA2 hc2 l0
          obtain ⟨C, hC⟩ : ∃ C : List Value, C = (Wq.mk ⟨e.who, e.key, 0, 0, e.nd, [], true, 0, true⟩ A2 c2).cs := ⟨_, rfl⟩
          have hC9 : C.length = 9 := by rw [hC]; rfl
          have hrg4 : V0.rangeAt (g5 + 1) 0 C := by
            subst hC
            intro j u hu
            rcases j with _ | _ | _ | _ | _ | _ | _ | _ | _ | j
            · cases hu; exact d0
            · cases hu; exact d1
            · cases hu; exact d2
            · cases hu; exact d3
            · cases hu; exact d4
            · cases hu; exact d5
            · cases hu; exact d6
            · cases hu; exact d7
            · cases hu; exact d8
            · cases hu
          have hC1 : ∀ u ∈ C, u.oneCell' = true := by subst hC; simp [Wq.cs, Value.oneCell']
          have HNEWS : Hid _ := Lib.hid (World.news_of_block (cs := C.toArray) (t := 37) (fr := (0, 0)) (heap_alloc_new V0 (.cells C.toArray 37)))
          have HW4 := Lib.hid (HWS.out.below HB4.out)
          have hrow := World.ownsRow.alloc HW4.out.row (.cells C.toArray 37)
          have kA : Below V0.heap.size V0 (V0.alloc (.cells C.toArray 37)) := (Below.refl _ _).alloc (Nat.le_refl _) _
          have hw4 : w.heap.size ≤ V0.heap.size := Nat.le_trans HB.out.size HB4.out.size
          have HKA := Lib.hid kA
          have HBY := Lib.hid (And.intro hby (And.intro hal hnl))
          clear kA hby hal hnl d0 d1 d2 d3 d4 d5 d6 d7 d8
          go_upto_region 13 with fail
          refine wp_region_lit ?_
          refine wpList_plain rfl (fun KK hKK => ?_)
          go_simp
          refine hKK _ _ ?_
          refine wpList_load_mid rfl 37 (.tmp 6) rfl (g5 + 1) 0 rfl C _ hrg4 Try.underlying37 rfl (by rw [hC9]; kernel_rfl) ?_
          refine wpList_buildSlice rfl 24 37 1 _ rfl C.toArray i0 _ Try.underlying24 hi0 hz0 (by rw [hz1]; omega) (by rw [hz1]; omega) (by rw [Array.toList_map]; exact fill9 i0 hz1 (.agg #[.int .i64 0, .string ⟨#[]⟩, .int .i64 0, .int .i64 0, .int .i64 0, .slice none 0 0, .bool false, .int .i64 0, .bool false]) C hC9) ?_
          refine wpList_append_lies _ rfl (.tmp 70) (.tmp 72) _ rfl w.heap.size 37 i0 _ 9 96 Try.underlying24 hi0 hz0 hz1 hz2 rfl (by decide) (.slice Av L'.length cv) L'.length (rowQ L') rfl hrow ⟨V0.heap.size, 0, none⟩ 1 1 C rfl (by rw [hC9]) HNEWS.out hC1 (by omega) (by unfold maxLen; omega) (by omega) (by simp; omega) _ rfl ?_
          intro g2 cap2 W5 hown2 hg2 hat2 hlt2
          refine wpList_plain rfl (fun KK hKK => ?_)
          go_simp
          refine hKK _ _ ?_
          refine wpList_nil ?_
          rw [hC] at hown2
          have hlw : ∀ j, (Value.slice Av L'.length cv).ownBlock = some j → w.heap.size ≤ j ∧ j < wr.heap.size := fun j hj => World.ownsRow.lt HWS.out.row j hj
          have HAPP := Lib.hid (Ws.app (x := Wq.mk ⟨e.who, e.key, 0, 0, e.nd, [], true, 0, true⟩ A2 c2) (HW4.out.below HKA.out) (HBY.out.1.below HKA.out) HBY.out.2.2 (fun ad ha => ⟨Nat.le_trans HB.out.size (HBY.out.2.1 ad ha).1, Nat.lt_of_lt_of_le (HBY.out.2.1 ad ha).2 HKA.out.size, fun q => by have := (hlw _ q).2; have := (HBY.out.2.1 ad ha).1; omega⟩) hg2 hat2 hown2)
          have HBF := Lib.hid (((HB.out.trans (HB4.out.mono HB.out.size)).trans (HKA.out.mono hw4)).grown hg2 (by simp; omega) (fun j hj => (hlw j hj).1))
          have HMP : Hid ((L' ++ [Wq.mk ⟨e.who, e.key, 0, 0, e.nd, [], true, 0, true⟩ A2 c2]).map Wq.m = wsN L pv (k + 1)) := Lib.hid (by rw [List.map_append, HMAP.out, wsN_step HE.out]; simp [wOf, HKD.out.1, HKD.out.2])
          clear hown2 hg2 hat2 hlt2 hrow HKA HNEWS hlw hrg4 hC1 hC9 hC
          go_wp2_with fail
          go_roundw
          case rel => exact ⟨k + 1, L' ++ [Wq.mk ⟨e.who, e.key, 0, 0, e.nd, [], true, 0, true⟩ A2 c2], by have := H1.out; omega, by simp, by simpa using HAPP.out, HMP.out, by simp; omega, HBF.out⟩
          all_goals ((try simp only [intOf]); have := H1.out; omega)
      · have HMP : Hid (L'.map Wq.m = wsN L pv (k + 1)) := Lib.hid (by rw [wsN_step HE.out, wOf_none hq]; simpa using HMAP.out)
        by_cases hkk : e.kd = 1 ∨ e.kd = 2
        · as_aux_lemma =>
          have hw1 : (e.kd == 1 || e.kd == 2) = true := by rcases hkk with h | h <;> simp [h]
          have e0 : (e.er != 0) = true := by simp; omega
          have e9 : (e.er != 9) = true := by simp; omega
          have e00 : (e.er == 0) = false := by simp; omega
          have e99 : (e.er == 9) = false := by simp; omega
          clear hkk hq
          obtain ⟨X, hX⟩ : ∃ X : Array Value, e.cs.toArray = X := ⟨_, rfl⟩
          have x0 : X[0]? = some (.int .i64 e.who) := by rw [← hX]; simp [Ev.cs, hvl]
          have x1 : X[1]? = some (.int .i64 e.kd) := by rw [← hX]; simp [Ev.cs, hvl]
          have x2 : X[2]? = some (.int .i64 e.nd) := by rw [← hX]; simp [Ev.cs, hvl]
          have x3 : X[3]? = some (.int .i64 e.n) := by rw [← hX]; simp [Ev.cs, hvl]
          have x8 : X[8]? = some (.string e.key) := by rw [← hX]; simp [Ev.cs, hvl]
          have x10 : X[10]? = some (.slice e.A (pv k).length e.vc) := by rw [← hX]; simp [Ev.cs, hvl]
          have x11 : X[11]? = some (.int .i64 e.er) := by rw [← hX]; simp [Ev.cs, hvl]
          have x13 : X[13]? = some (.int .i64 e.tm) := by rw [← hX]; simp [Ev.cs, hvl]
          have x14 : X[14]? = some (.int .i64 e.tc) := by rw [← hX]; simp [Ev.cs, hvl]
          have HSZ : Hid (X.size = 18) := Lib.hid (by rw [← hX]; rfl)
          have hone : X.all (·.oneCell') = true := by rw [← hX]; exact e.one
          have HX := Lib.hid hX
          clear hX
          have HW := Lib.hid (fun W : World => is_write e.kd W true hw1.symm)
          clear hw1
          go_upto_region 4 with fail
          refine wp_region_lit ?_
          refine wpList_plain rfl (fun KK hKK => ?_)
          go_simp
          refine hKK _ _ ?_
          refine wpList_load_mid rfl 47 (.tmp 11) rfl B (O + k * 18) rfl e.cs _ hrg Try.underlying47 rfl (by kernel_rfl) ?_
          rw [HX.out]
          refine wpList_plain rfl (fun KK hKK => ?_)
          go_simp
          refine hKK _ _ ?_
          refine wpList_store_new25 rfl 47 (.tmp 5) (.tmp 12) rfl evZ X rfl rfl (by rw [HSZ.out, ev_info]) (by rw [HSZ.out]; rfl) hone ?_
          refine wpList_nil ?_
          have k0 : Below wr.heap.size wr (wr.alloc (.cells X 47)) := (Below.refl _ _).alloc (Nat.le_refl _) _
          have HB2 := Lib.hid (HB.out.trans (k0.mono HB.out.size))
          have HW2 := Lib.hid (HWS.out.below k0)
          clear hrg hone HX k0
          go_wp2_with (go_at_call 13; refine (HW.out _).mono ?_; rintro e2 w2 ⟨rfl, rfl⟩)
          go_roundw
          case rel => exact ⟨k + 1, L', by have := H1.out; omega, by simp, HW2.out, HMP.out, by omega, HB2.out⟩
          all_goals ((try simp only [intOf]); have := H1.out; omega)
        · as_aux_lemma =>
          have hw1 : (e.kd == 1 || e.kd == 2) = false := by simp; omega
          clear hkk hq
          obtain ⟨X, hX⟩ : ∃ X : Array Value, e.cs.toArray = X := ⟨_, rfl⟩
          have x0 : X[0]? = some (.int .i64 e.who) := by rw [← hX]; simp [Ev.cs, hvl]
          have x1 : X[1]? = some (.int .i64 e.kd) := by rw [← hX]; simp [Ev.cs, hvl]
          have x2 : X[2]? = some (.int .i64 e.nd) := by rw [← hX]; simp [Ev.cs, hvl]
          have x3 : X[3]? = some (.int .i64 e.n) := by rw [← hX]; simp [Ev.cs, hvl]
          have x8 : X[8]? = some (.string e.key) := by rw [← hX]; simp [Ev.cs, hvl]
          have x10 : X[10]? = some (.slice e.A (pv k).length e.vc) := by rw [← hX]; simp [Ev.cs, hvl]
          have x11 : X[11]? = some (.int .i64 e.er) := by rw [← hX]; simp [Ev.cs, hvl]
          have x13 : X[13]? = some (.int .i64 e.tm) := by rw [← hX]; simp [Ev.cs, hvl]
          have x14 : X[14]? = some (.int .i64 e.tc) := by rw [← hX]; simp [Ev.cs, hvl]
          have HSZ : Hid (X.size = 18) := Lib.hid (by rw [← hX]; rfl)
          have hone : X.all (·.oneCell') = true := by rw [← hX]; exact e.one
          have HX := Lib.hid hX
          clear hX
          have HW := Lib.hid (fun W : World => is_write e.kd W false hw1.symm)
          clear hw1
          go_upto_region 4 with fail
          refine wp_region_lit ?_
          refine wpList_plain rfl (fun KK hKK => ?_)
          go_simp
          refine hKK _ _ ?_
          refine wpList_load_mid rfl 47 (.tmp 11) rfl B (O + k * 18) rfl e.cs _ hrg Try.underlying47 rfl (by kernel_rfl) ?_
          rw [HX.out]
          refine wpList_plain rfl (fun KK hKK => ?_)
          go_simp
          refine hKK _ _ ?_
          refine wpList_store_new25 rfl 47 (.tmp 5) (.tmp 12) rfl evZ X rfl rfl (by rw [HSZ.out, ev_info]) (by rw [HSZ.out]; rfl) hone ?_
          refine wpList_nil ?_
          have k0 : Below wr.heap.size wr (wr.alloc (.cells X 47)) := (Below.refl _ _).alloc (Nat.le_refl _) _
          have HB2 := Lib.hid (HB.out.trans (k0.mono HB.out.size))
          have HW2 := Lib.hid (HWS.out.below k0)
          clear hrg hone HX k0
          go_wp2_with (go_at_call 13; refine (HW.out _).mono ?_; rintro e2 w2 ⟨rfl, rfl⟩)
          go_roundw
          case rel => exact ⟨k + 1, L', by have := H1.out; omega, by simp, HW2.out, HMP.out, by omega, HB2.out⟩
          all_goals ((try simp only [intOf]); have := H1.out; omega)
    · as_aux_lemma =>
      have t1 : decide ((k : Int) < (L.length : Int)) = false := by simp; omega
      obtain rfl : k = L.length := by omega
      clear hk h1
      go_wp2_with fail
      go_ret
      exact ⟨⟨_, L', rfl, HWS.out, HMAP.out⟩, HB.out⟩
end Go.Proofs.Ytdjhpajmbddffaa
