/- The reference's Put: laid (written by gen/refput.py ok). -/
import Derived.Test.YtfjnjababehmmaaRefPut
set_option linter.unusedSimpArgs false
set_option linter.unusedVariables false
namespace Go.Proofs.Ytfjnjababehmmaa
open Go.RowKit Go.Sort

theorem rows_ne {w : World} {b1 b2 n1 n2 s1 s2 : Nat} {e1 e2 : TypeId} {v1 v2 : Value} {x1 x2 : List Value} (h1 : w.ownsRow b1 e1 s1 v1 n1 x1) (h2 : w.ownsRow b2 e2 s2 v2 n2 x2) (hne : e1 ≠ e2) : ∀ i, v1.ownBlock = some i → v2.ownBlock ≠ some i := fun i hi hj => by
  rcases h1.2 with ⟨rfl, _⟩ | ⟨g, cap, cur, rfl, _, hg, _⟩
  · simp [Value.ownBlock] at hi
  · rcases h2.2 with ⟨rfl, _⟩ | ⟨g', cap', cur', rfl, _, hg', _⟩
    · simp [Value.ownBlock] at hj
    · simp [Value.ownBlock] at hi hj
      subst hi hj
      rw [hg] at hg'
      injection hg' with hg'
      injection hg' with _ h3
      exact hne h3
theorem own_block {w : World} {base n n' c : Nat} {A : Option Addr} {p : List Int} (h : w.ownsRow base 5 1 (.slice A n c) n' (bC p)) {ad : Addr} (ha : A = some ad) : (Value.slice A n c).ownBlock = some ad.block := by
  rcases h.2 with ⟨e, _⟩ | ⟨g, cap, cur, e, _⟩
  · injection e with e1 _ _
    rw [ha] at e1
    cases e1
  · injection e with e1 _ _
    rw [ha] at e1
    injection e1 with e1
    subst e1
    subst ha
    rfl
theorem ref_fin {P : Nat → Prop} {b : Nat} {v v9 : Value} {L : List Mv} {m : Mv} {k : Nat} {w V : World} {A1 : Option Addr} {c1 : Nat} (h0 : Ch P w b v L) (hb : Below w.heap.size w V)
    (ho : V.ownsRow w.heap.size 5 1 (.slice A1 m.v.val.length c1) m.v.val.length (bC m.v.val)) (hy : isBy m.v.val) (hk : k ≤ L.length)
    (hrow : V.ownsRow w.heap.size 28 6 v9 (L.length + 1) (rowV (L.take k ++ ⟨m.v, A1, c1⟩ :: L.drop k))) :
    PutMore P b v L m k w (V.setCell ⟨b, 0, none⟩ v9) := by
  have hbl := h0.lt
  have hz := hb.size
  have h2 := h0.below hb
  have hvl : ∀ i, v9.ownBlock = some i → w.heap.size ≤ i ∧ i < V.heap.size := fun i hi => World.ownsRow.lt hrow i hi
  have hlen : (L.take k ++ (⟨m.v, A1, c1⟩ : Mv) :: L.drop k).length = L.length + 1 := by simp; omega
  have hO : But (fun i => i = b) V (V.setCell ⟨b, 0, none⟩ v9) := But.of_only ((Only.refl b V).setB _) rfl
  obtain ⟨A', c', e, _, hby, hn1, hq1⟩ := own8_shape ho
  injection e with e1 e2 e3
  subst e1 e3
  have hne := rows_ne hrow ho (by decide)
  have hzs : (V.setCell ⟨b, 0, none⟩ v9).heap.size = V.heap.size := by simp [World.setCell]
  refine ⟨_, A1, c1, ⟨World.cell?_setCell_same _ _ _ h2.c0, by rw [World.frozen?_setCell]; exact h2.f0, by rw [hzs]; exact h2.lt, ?_, fun e => by have := (hvl _ e).1; omega, .inl h0.pb, fun i hi => .inr ⟨(hvl i hi).1, by rw [hzs]; exact (hvl i hi).2⟩, fun x hx => ?_⟩, ?_⟩
  · rw [hlen]
    exact hO.row (own_base (Nat.zero_le _) hrow) (fun i hi e => by have := (hvl i hi).1; omega)
  · have key : ∀ x : Mv, x ∈ L → x.At (fun i => (P i ∨ (w.heap.size ≤ i ∧ i < (V.setCell ⟨b, 0, none⟩ v9).heap.size)) ∧ i ≠ b ∧ v9.ownBlock ≠ some i) (V.setCell ⟨b, 0, none⟩ v9) := fun x hx => by
      have h1 := (h0.ats x hx).mono (Q' := fun i => (P i ∧ i ≠ b) ∧ i < w.heap.size) (fun i hi hq => ⟨⟨hq.1, hq.2.1⟩, hi⟩)
      have h3 := (h1.but (S := fun i => w.heap.size ≤ i) ⟨hb.os, hb.tape, hb.output, hb.size, fun i hi hn => hb.block i (by omega)⟩ (fun i hi hq => by have := hq.2; omega)).but hO (fun i hi hq => hq.1.2 hi)
      exact h3.mono (fun i _ hq => ⟨.inl hq.1.1, hq.1.2, fun e => by have := (hvl i e).1; have := hq.2; omega⟩)
    rcases List.mem_append.1 hx with q | q
    · exact key x (List.mem_of_mem_take q)
    · rcases List.mem_cons.1 q with rfl | q
      · have h1 : Mv.At (fun i => w.heap.size ≤ i ∧ v9.ownBlock ≠ some i) V ⟨m.v, A1, c1⟩ := ⟨hby, hn1, fun _ ad had => ⟨(hq1 ad had).1, fun e => hne _ e (own_block ho had)⟩, hy⟩
        exact (h1.but hO (fun i hi hq => by have := hq.1; omega)).mono (fun i hi hq => ⟨.inr ⟨hq.1, hi⟩, by have := hq.1; omega, hq.2⟩)
      · exact key x (List.mem_of_mem_drop q)
  · exact (But.of_below (S := FootC b v) (hb.mono (Nat.le_refl _))).trans hO (fun i _ hi => .inl hi)
set_option maxRecDepth 100000 in
set_option maxHeartbeats 8000000 in
theorem ref_put_okN (P : Nat → Prop) (b : Nat) (c0 : Nat) (L : List Mv) (m : Mv) (k : Nat) (w : World) (h : Ch P w b (.slice none L.length c0) L) (hl : L.length ≤ 1000000) (ho : m.v.ok = true) (hs : StandV L (fun x => cmpV x m.v < 0) k) (hp : ByL w m.A m.v.val) (hn : m.A = none → m.v.val.length = 0) (hy : isBy m.v.val) (hvl : m.v.val.length ≤ 100000) :
    Calls Try.prog 16 #[.pointer (some ⟨b, 0, none⟩), m.val] w fun e w' => e = .returned (.int .i64 0) ∧ PutMore P b (.slice none L.length c0) L m k w w' := by
  have HL0 : Hid (L.length = 0) := Lib.hid (by
    rcases h.row.2 with ⟨_, h0⟩ | ⟨g, cap, cur, e, _⟩
    · exact h0
    · cases e)
  have hc0 : c0 = 0 := by
    rcases h.row.2 with ⟨e, _⟩ | ⟨g, cap, cur, e, _⟩
    · injection e
    · cases e
  have hk0 : k = 0 := by have := hs.le; have := HL0.out; omega
  subst hc0
  subst hk0
  obtain ⟨⟨ml, ct, vo, val, gn, tt⟩, A, cc⟩ := m
  have HB0 : Below w.heap.size w (w.alloc (verO ml ct vo A val.length cc gn tt)) := by (repeat' (first | (with_reducible exact Below.refl _ _) | (with_reducible assumption) | (with_reducible refine Below.trans ?_ (Below.mono (by with_reducible assumption) ?_)) | (with_reducible refine Below.alloc ?_ ?_ _) | (with_reducible refine Below.setCell ?_ ?_ _) | (with_reducible refine below_drewN ?_ _) | (with_reducible refine Below.drew ?_) | go_size))
  have HI := Lib.hid (fun W => ref_version ml ct vo A val.length cc gn tt W)
  have HE : Hid (okV ml ct vo val.length gn tt = true) := ho
  have HH := Lib.hid h
  have HS := Lib.hid hs
  have hkl := hs.le
  obtain rfl : L = [] := List.eq_nil_of_length_eq_zero HL0.out
  obtain ⟨i0, hi0, hz0, hz1, hz2⟩ := info_parts ver_info
  have HP := Lib.hid hp
  have HCP := Lib.hid (fun W (hpw : ByL W A val) => ref_own ⟨⟨ml, ct, vo, val, gn, tt⟩, A, cc⟩ W hpw hn hvl)
  clear hp hn hvl
  clear ho h hs
  go_enter Try.func16, Try.ntmps16
  go_wp2_with (go_at_call 19; refine (HI.out _).mono ?_; rw [HE.out]; rintro e w1 ⟨rfl, hb1⟩; have HB1 := Lib.hid (HB0.trans (hb1.mono HB0.size)))
  have lw : w.heap.size < w1.heap.size := by have := hb1.size; simp at this; omega
  have HZ : Hid (∀ wr, Below w1.heap.size w1 wr → wr.cell? ⟨w.heap.size, 0, none⟩ = some (.int .i64 ml) ∧ wr.cell? ⟨w.heap.size, 1, none⟩ = some (.int .i64 ct) ∧ wr.cell? ⟨w.heap.size, 2, none⟩ = some (.int .i64 vo) ∧ wr.cell? ⟨w.heap.size, 3, none⟩ = some (.slice A val.length cc) ∧ wr.cell? ⟨w.heap.size, 4, none⟩ = some (.bool gn) ∧ wr.cell? ⟨w.heap.size, 5, none⟩ = some (.int .i64 tt)) := Lib.hid (fun wr hb => by
    refine ⟨?_, ?_, ?_, ?_, ?_, ?_⟩ <;> (rw [hb.cell (p := ⟨w.heap.size, _, none⟩) lw, hb1.cell (p := ⟨w.heap.size, _, none⟩) (by simp)]; simp))
  have HF : Hid (∀ wr, Below w1.heap.size w1 wr → Below w.heap.size w wr) := Lib.hid (fun wr hb => HB1.out.trans (hb.mono HB1.out.size))
  have HR1 : Hid (Below w1.heap.size w1 w1) := Lib.hid (Below.refl _ _)
  clear hb1 HI HE HB0
  refine wp_loop_rounds 1 ?_
  rw [rounds_succ]
  have Hr := HH.out.below (HF.out w1 HR1.out)
  have c9 := Hr.c0
  have HBr := HR1
  have kc9 := fun d os => cell_regrown c9 d os
  clear c9 Hr
  go_wp2_with fail
  refine wp_region_quiet_below (by kernel_rfl) (by kernel_rfl) ?_
  repeat (go_big_quiet_step ((go_at_call 37; exact HX)))
  refine wpQuiet_nil ?_
  intro _ hw'
  obtain ⟨⟨dq, osq⟩, hw''⟩ := hw'
  subst hw''
  have HBN := HBr.out.trans ((below_regrown w1 dq osq).mono HBr.out.size)
  clear kc9
  generalize hgw : grow (redrawn w1 dq) osq = w3 at *
  clear hgw
  have Hr := HH.out.below (HF.out w3 HBN)
  have c9 := Hr.c0
  have HBn := Lib.hid HBN
  have kc9 := fun d os => cell_regrown c9 d os
  clear c9 Hr HBN
  go_wp2_with fail
  refine wp_region_quiet_below (by kernel_rfl) (by kernel_rfl) ?_
  repeat (go_big_quiet_step ((go_at_call 37; exact HX)))
  refine wpQuiet_nil ?_
  intro _ hw'
  obtain ⟨⟨dq, osq⟩, hw''⟩ := hw'
  subst hw''
  have HBM := Lib.hid (HBn.out.trans ((below_regrown w3 dq osq).mono HBn.out.size))
  clear kc9
  generalize hgw : grow (redrawn w3 dq) osq = w4 at *
  clear hgw
  go_wp2_with fail
  have HBV := Lib.hid (HBM.out.drew)
  have hS0 := And.intro (HZ.out _ HBV.out) (HH.out.below (HF.out _ HBV.out)).c0
  refine wp_region_held_drew (S := (fun w' => (w'.cell? ⟨w.heap.size, 0, none⟩ = some (.int .i64 ml) ∧ w'.cell? ⟨w.heap.size, 1, none⟩ = some (.int .i64 ct) ∧ w'.cell? ⟨w.heap.size, 2, none⟩ = some (.int .i64 vo) ∧ w'.cell? ⟨w.heap.size, 3, none⟩ = some (.slice A val.length cc) ∧ w'.cell? ⟨w.heap.size, 4, none⟩ = some (.bool gn) ∧ w'.cell? ⟨w.heap.size, 5, none⟩ = some (.int .i64 tt)) ∧ w'.cell? ⟨b, 0, none⟩ = some (.slice none ([] : List Mv).length 0))) (by kernel_rfl) ?_ (fun hHeld => ?_)
  · exact hS0
  clear hS0
  generalize w4.drew = V0 at *
  refine wpAnyH_take (i := 1) (v := ?_) rfl (by kernel_rfl) (by kernel_rfl) (by kernel_rfl) (fun _ _ _ h => h) (Or.inl ⟨by rfl, ?_⟩) (by assumption) ?_
  rotate_left
  · intro w' hSw; (try dsimp only at hSw); go_simp; (try with_reducible rfl)
  (try simp only [Act.put, List.setIfInBounds_toArray, List.set_cons_zero, List.set_cons_succ, List.getElem_toArray, List.getElem_cons_succ, List.getElem_cons_zero])
  refine wpAnyH_take (i := 2) (v := ?_) rfl (by kernel_rfl) (by kernel_rfl) (by kernel_rfl) (fun _ _ _ h => h) (Or.inl ⟨by rfl, ?_⟩) (by assumption) ?_
  rotate_left
  · intro w' hSw; (try dsimp only at hSw); go_simp; (try with_reducible rfl)
  (try simp only [Act.put, List.setIfInBounds_toArray, List.set_cons_zero, List.set_cons_succ, List.getElem_toArray, List.getElem_cons_succ, List.getElem_cons_zero])
  refine wpAnyH_take (i := 3) (v := ?_) rfl (by kernel_rfl) (by kernel_rfl) (by kernel_rfl) (fun _ _ _ h => h) (Or.inl ⟨by rfl, ?_⟩) (by assumption) ?_
  rotate_left
  · intro w' hSw; (try dsimp only at hSw); go_simp; (try with_reducible rfl)
  (try simp only [Act.put, List.setIfInBounds_toArray, List.set_cons_zero, List.set_cons_succ, List.getElem_toArray, List.getElem_cons_succ, List.getElem_cons_zero])
  refine wpAnyH_take (i := 4) (v := ?_) rfl (by kernel_rfl) (by kernel_rfl) (by kernel_rfl) (fun _ _ _ h => h) (Or.inl ⟨by rfl, ?_⟩) (by assumption) ?_
  rotate_left
  · intro w' hSw; (try dsimp only at hSw); go_simp; (try with_reducible rfl)
  (try simp only [Act.put, List.setIfInBounds_toArray, List.set_cons_zero, List.set_cons_succ, List.getElem_toArray, List.getElem_cons_succ, List.getElem_cons_zero])
  refine wpAnyH_take (i := 5) (v := ?_) rfl (by kernel_rfl) (by kernel_rfl) (by kernel_rfl) (fun _ _ _ h => h) (Or.inl ⟨by rfl, ?_⟩) (by assumption) ?_
  rotate_left
  · intro w' hSw; (try dsimp only at hSw); go_simp; (try with_reducible rfl)
  (try simp only [Act.put, List.setIfInBounds_toArray, List.set_cons_zero, List.set_cons_succ, List.getElem_toArray, List.getElem_cons_succ, List.getElem_cons_zero])
  refine wpAnyH_take (i := 6) (v := ?_) rfl (by kernel_rfl) (by kernel_rfl) (by kernel_rfl) (fun _ _ _ h => h) (Or.inl ⟨by rfl, ?_⟩) (by assumption) ?_
  rotate_left
  · intro w' hSw; (try dsimp only at hSw); go_simp; (try with_reducible rfl)
  (try simp only [Act.put, List.setIfInBounds_toArray, List.set_cons_zero, List.set_cons_succ, List.getElem_toArray, List.getElem_cons_succ, List.getElem_cons_zero])
  refine wpAnyH_take (i := 8) (v := ?_) rfl (by kernel_rfl) (by kernel_rfl) (by kernel_rfl) (fun _ _ _ h => h) (Or.inl ⟨by rfl, ?_⟩) (by assumption) ?_
  rotate_left
  · intro w' hSw; (try dsimp only at hSw); go_simp; (try with_reducible rfl)
  (try simp only [Act.put, List.setIfInBounds_toArray, List.set_cons_zero, List.set_cons_succ, List.getElem_toArray, List.getElem_cons_succ, List.getElem_cons_zero])
  refine wpAnyH_ready (rs := [0]) (by kernel_rfl) (by simp) ?_
  refine AllReadyH.cons rfl (fun K hK => ?_) (AllReadyH.nil)
  go_simp
  have hba : Below V0.heap.size V0 (V0.alloc (.cells #[] 28)) := (Below.refl _ _).alloc (Nat.le_refl _) _
  have RW : Hid ((V0.alloc (.cells #[] 28)).ownsRow w1.heap.size 28 6 (.slice (some ⟨V0.heap.size, 0, none⟩) 0 0) 0 []) := Lib.hid (World.ownsRow_made (base := w1.heap.size) (e := 28) (size := 6) V0 #[] 0 HBV.out.size (Nat.zero_le _) rfl)
  have HBV := Lib.hid (HBV.out.trans (hba.mono HBV.out.size))
  clear hba
  generalize V0.heap.size = zb at *
  generalize V0.alloc (.cells #[] 28) = V1 at *
  (try dsimp only)
  refine hK.out _ _ ?_ (fun hHeld => ?_)
  · exact ⟨HZ.out _ HBV.out, (HH.out.below (HF.out _ HBV.out)).c0⟩
  clear hK K
  (try simp only [Act.put, List.setIfInBounds_toArray, List.set_cons_zero, List.set_cons_succ, List.getElem_toArray, List.getElem_cons_succ, List.getElem_cons_zero])
  refine wpAnyH_ready (rs := [7]) (by kernel_rfl) (by simp) ?_
  refine AllReadyH.cons rfl (fun K hK => ?_) (AllReadyH.nil)
  go_simp
  have RV : Hid (V1.ownsRow w1.heap.size 28 6 (.slice (some ⟨zb, 0, none⟩) 0 0) 0 (rowV (([] : List Mv).take 0))) := RW
  (try dsimp only)
  refine hK.out _ _ ?_ (fun hHeld => ?_)
  · exact ⟨HZ.out _ HBV.out, (HH.out.below (HF.out _ HBV.out)).c0⟩
  clear hK K
  (try simp only [Act.put, List.setIfInBounds_toArray, List.set_cons_zero, List.set_cons_succ, List.getElem_toArray, List.getElem_cons_succ, List.getElem_cons_zero])
  refine wpAnyH_ready (rs := [9]) (by kernel_rfl) (by simp) ?_
  refine AllReadyH.cons rfl (fun K hK => ?_) (AllReadyH.nil)
  go_simp
  (go_at_call 38; refine (HCP.out _ (HP.out.below (HF.out _ HBV.out))).mono ?_; rintro e V2 ⟨A1, k1, rfl, ho1, hb1⟩)
  have HO1 := Lib.hid (own_base (base' := w.heap.size) (HF.out _ HBV.out).size ho1)
  have RV := Lib.hid (row_below RV.out hb1)
  have HBV := Lib.hid (HBV.out.trans (hb1.mono HBV.out.size))
  clear hb1 ho1
  (try dsimp only)
  refine hK.out _ _ ?_ (fun hHeld => ?_)
  · exact ⟨HZ.out _ HBV.out, (HH.out.below (HF.out _ HBV.out)).c0⟩
  clear hK K
  (try simp only [Act.put, List.setIfInBounds_toArray, List.set_cons_zero, List.set_cons_succ, List.getElem_toArray, List.getElem_cons_succ, List.getElem_cons_zero])
  refine wpAnyH_ready (rs := [10]) (by kernel_rfl) (by simp) ?_
  refine AllReadyH.cons rfl (fun K hK => ?_) (AllReadyH.nil)
  go_simp
  have hba : Below V2.heap.size V2 (V2.alloc (.cells #[.int .i64 ml, .int .i64 ct, .int .i64 vo, .slice A1 val.length k1, .bool gn, .int .i64 tt] 28)) := (Below.refl _ _).alloc (Nat.le_refl _) _
  have HONE : Hid (One (V2.alloc (.cells #[.int .i64 ml, .int .i64 ct, .int .i64 vo, .slice A1 val.length k1, .bool gn, .int .i64 tt] 28)) V2.heap.size ⟨⟨ml, ct, vo, val, gn, tt⟩, A1, k1⟩) := Lib.hid (heap_alloc_new V2 _)
  have HO1 := Lib.hid (row_below HO1.out hba)
  have RV := Lib.hid (row_below RV.out hba)
  have HBV := Lib.hid (HBV.out.trans (hba.mono HBV.out.size))
  clear hba
  generalize V2.heap.size = vb at *
  generalize V2.alloc (.cells #[.int .i64 ml, .int .i64 ct, .int .i64 vo, .slice A1 val.length k1, .bool gn, .int .i64 tt] 28) = V3 at *
  (try dsimp only)
  refine hK.out _ _ ?_ (fun hHeld => ?_)
  · exact ⟨HZ.out _ HBV.out, (HH.out.below (HF.out _ HBV.out)).c0⟩
  clear hK K
  (try simp only [Act.put, List.setIfInBounds_toArray, List.set_cons_zero, List.set_cons_succ, List.getElem_toArray, List.getElem_cons_succ, List.getElem_cons_zero])
  refine wpAnyH_ready (rs := [11]) (by kernel_rfl) (by simp) ?_
  refine AllReadyH.cons rfl (fun K hK => ?_) (AllReadyH.nil)
  rw [if_pos (by rfl)]
  refine wp_append_lies _ _ _ _ (by rfl) w1.heap.size 28 i0 _ 6 64 Try.underlying22 hi0 hz0 hz1 hz2 rfl (by decide) (Value.slice (some ⟨zb, 0, none⟩) 0 0) 0 (rowV (([] : List Mv).take 0)) (by rfl) RV.out ⟨vb, 0, none⟩ 1 1 [.int .i64 ml, .int .i64 ct, .int .i64 vo, .slice A1 val.length k1, .bool gn, .int .i64 tt] (by rfl) (by rfl) (World.news_of_block (cs := #[.int .i64 ml, .int .i64 ct, .int .i64 vo, .slice A1 val.length k1, .bool gn, .int .i64 tt]) (t := 28) (fr := (0, 0)) HONE.out) (by simp [Value.oneCell']) (by omega) (by unfold maxLen; omega) (by omega) HBV.out.size _ rfl ?_
  intro g8 c8 V4 hv8 hg8 _ _
  have hbt8 : But (fun i => (Value.slice (some ⟨zb, 0, none⟩) 0 0).ownBlock = some i) V3 V4 := But.of_grown hg8 (fun i hi => hi)
  have RX : Hid (V4.ownsRow w1.heap.size 28 6 (.slice (some ⟨g8, 0, none⟩) (0 + 1) c8) (0 + 1) (rowV (([] : List Mv).take 0 ++ [⟨⟨ml, ct, vo, val, gn, tt⟩, A1, k1⟩]))) := Lib.hid (by rw [rowV_append, rowV_one]; exact hv8)
  have HO1 := Lib.hid (hbt8.row HO1.out (fun i hi e => rows_ne RV.out HO1.out (by decide) i e hi))
  have HBV := Lib.hid (HBV.out.grown hg8 HBV.out.size (fun i hi => (World.ownsRow.lt RV.out i hi).1))
  clear hv8 hg8 hbt8 HONE
  (try dsimp only)
  refine hK.out _ _ ?_ (fun hHeld => ?_)
  · exact ⟨HZ.out _ HBV.out, (HH.out.below (HF.out _ HBV.out)).c0⟩
  clear hK K
  (try simp only [Act.put, List.setIfInBounds_toArray, List.set_cons_zero, List.set_cons_succ, List.getElem_toArray, List.getElem_cons_succ, List.getElem_cons_zero])
  refine wpAnyH_take (i := 12) (v := ?_) rfl (by kernel_rfl) (by kernel_rfl) (by kernel_rfl) (fun _ _ _ h => h) (Or.inl ⟨by rfl, ?_⟩) (by assumption) ?_
  rotate_left
  · intro w' hSw; (try dsimp only at hSw); go_simp; (try with_reducible rfl)
  (try simp only [Act.put, List.setIfInBounds_toArray, List.set_cons_zero, List.set_cons_succ, List.getElem_toArray, List.getElem_cons_succ, List.getElem_cons_zero])
  refine wpAnyH_done (by kernel_rfl) ?_ _
  have c9 := (HH.out.below (HF.out _ HBV.out)).c0
  have f9 := (HH.out.below (HF.out _ HBV.out)).f0
  have HFIN := Lib.hid (ref_fin (m := ⟨⟨ml, ct, vo, val, gn, tt⟩, A, cc⟩) (k := 0) HH.out (HF.out _ HBV.out) HO1.out hy (Nat.zero_le _) (by rw [HL0.out]; have := own_base (base' := w.heap.size) HB1.out.size RX.out; simpa [HL0.out] using this))
  have hc8 := (own_max RX.out).1
  have hc81 : 1 ≤ c8 := by omega
  have hc82 : (1 : Int) ≤ (c8 : Int) := by omega
  have hld := empty_loads.1
  have hst := empty_loads.2
  go_wp2
  go_ret
  exact ⟨rfl, HFIN.out⟩
set_option maxRecDepth 100000 in
set_option maxHeartbeats 8000000 in
theorem ref_put_okS (P : Nat → Prop) (b : Nat) (g0 c0 : Nat) (L : List Mv) (m : Mv) (k : Nat) (w : World) (h : Ch P w b (.slice (some ⟨g0, 0, none⟩) L.length c0) L) (hl : L.length ≤ 1000000) (ho : m.v.ok = true) (hs : StandV L (fun x => cmpV x m.v < 0) k) (ha : HasV L m.v k false) (hp : ByL w m.A m.v.val) (hn : m.A = none → m.v.val.length = 0) (hy : isBy m.v.val) (hvl : m.v.val.length ≤ 100000) :
    Calls Try.prog 16 #[.pointer (some ⟨b, 0, none⟩), m.val] w fun e w' => e = .returned (.int .i64 0) ∧ PutMore P b (.slice (some ⟨g0, 0, none⟩) L.length c0) L m k w w' := by
  have hk2 : k ≤ L.length := hs.le
  obtain ⟨hcap1, hcap2⟩ : L.length ≤ c0 ∧ c0 ≤ maxLen := own_max h.row
  have HTL : Hid ((rowV (L.take k)).length = k * 6) := Lib.hid (by rw [rowV_len, List.length_take, show min k L.length = k from by omega])
  have HDL : Hid ((rowV (L.drop k)).length = (L.length - k) * 6) := Lib.hid (by rw [rowV_len, List.length_drop])
  have HTK : Hid (∀ W, Below w.heap.size w W → ∀ j u, (rowV (L.take k))[j]? = some u → W.cell? ⟨g0, j, none⟩ = some u) := Lib.hid (fun W hW j u hu => by
    rw [← rowV_take, List.getElem?_take] at hu
    split at hu
    · exact row_cell (h.below hW).row hu
    · cases hu)
  have HDR0 : Hid (c0 = k → ∀ W, Below w.heap.size w W → ∀ j u, (rowV (L.drop k))[j]? = some u → W.cell? ((⟨g0, 0, none⟩ : Addr).add j) = some u) := Lib.hid (fun hc W hW j u hu => by
    have := (List.getElem?_eq_some_iff.1 hu).1
    have h9 := HDL.out
    omega)
  have HDR1 : Hid (¬ c0 = k → ∀ W, Below w.heap.size w W → ∀ j u, (rowV (L.drop k))[j]? = some u → W.cell? ((⟨g0, k * 6, none⟩ : Addr).add j) = some u) := Lib.hid (fun hc W hW j u hu => by
    rw [at_add]
    rw [← rowV_drop, List.getElem?_drop] at hu
    exact row_cell (h.below hW).row hu)
  have HCV : Hid (∀ x, L[k]? = some x → 0 < cmpV x.v m.v) := Lib.hid (fun x hx => ha.2 rfl x hx)
  have hk3 : (k : Int) ≤ (L.length : Int) := by omega
  have hk4 : k ≤ c0 := by omega
  have hk5 : (L.length : Int) ≤ (c0 : Int) := by omega
  clear ha
  obtain ⟨⟨ml, ct, vo, val, gn, tt⟩, A, cc⟩ := m
  have HB0 : Below w.heap.size w (w.alloc (verO ml ct vo A val.length cc gn tt)) := by (repeat' (first | (with_reducible exact Below.refl _ _) | (with_reducible assumption) | (with_reducible refine Below.trans ?_ (Below.mono (by with_reducible assumption) ?_)) | (with_reducible refine Below.alloc ?_ ?_ _) | (with_reducible refine Below.setCell ?_ ?_ _) | (with_reducible refine below_drewN ?_ _) | (with_reducible refine Below.drew ?_) | go_size))
  have HI := Lib.hid (fun W => ref_version ml ct vo A val.length cc gn tt W)
  have HE : Hid (okV ml ct vo val.length gn tt = true) := ho
  have HH := Lib.hid h
  have HS := Lib.hid hs
  have hkl := hs.le
  obtain ⟨i0, hi0, hz0, hz1, hz2⟩ := info_parts ver_info
  have HP := Lib.hid hp
  have HCP := Lib.hid (fun W (hpw : ByL W A val) => ref_own ⟨⟨ml, ct, vo, val, gn, tt⟩, A, cc⟩ W hpw hn hvl)
  clear hp hn hvl
  clear ho h hs
  go_enter Try.func16, Try.ntmps16
  go_wp2_with (go_at_call 19; refine (HI.out _).mono ?_; rw [HE.out]; rintro e w1 ⟨rfl, hb1⟩; have HB1 := Lib.hid (HB0.trans (hb1.mono HB0.size)))
  have lw : w.heap.size < w1.heap.size := by have := hb1.size; simp at this; omega
  have HZ : Hid (∀ wr, Below w1.heap.size w1 wr → wr.cell? ⟨w.heap.size, 0, none⟩ = some (.int .i64 ml) ∧ wr.cell? ⟨w.heap.size, 1, none⟩ = some (.int .i64 ct) ∧ wr.cell? ⟨w.heap.size, 2, none⟩ = some (.int .i64 vo) ∧ wr.cell? ⟨w.heap.size, 3, none⟩ = some (.slice A val.length cc) ∧ wr.cell? ⟨w.heap.size, 4, none⟩ = some (.bool gn) ∧ wr.cell? ⟨w.heap.size, 5, none⟩ = some (.int .i64 tt)) := Lib.hid (fun wr hb => by
    refine ⟨?_, ?_, ?_, ?_, ?_, ?_⟩ <;> (rw [hb.cell (p := ⟨w.heap.size, _, none⟩) lw, hb1.cell (p := ⟨w.heap.size, _, none⟩) (by simp)]; simp))
  have HF : Hid (∀ wr, Below w1.heap.size w1 wr → Below w.heap.size w wr) := Lib.hid (fun wr hb => HB1.out.trans (hb.mono HB1.out.size))
  have HR1 : Hid (Below w1.heap.size w1 w1) := Lib.hid (Below.refl _ _)
  clear hb1 HI HE HB0
  go_loopw [5] (fun i wr => ∃ q : Nat, i = .int .i64 q ∧ q ≤ k ∧ Below w1.heap.size w1 wr) (fun i _ => k - (intOf i).toNat)
  case atStart => exact ⟨0, rfl, Nat.zero_le _, HR1.out⟩
  case round =>
    obtain ⟨q, rfl, hqk, HB⟩ := hrel
    rcases Nat.lt_or_ge q k with hlt | hge
    · have lq : (q : Int) < (L.length : Int) := by omega
      obtain ⟨x, hx⟩ : ∃ x, L[q]? = some x := ⟨L[q]'(by omega), List.getElem?_eq_getElem _⟩
      have Hr := HH.out.below (HF.out wr HB)
      have c9 := Hr.c0
      obtain ⟨a0, a1, a2, a3, a4, a5⟩ := Hr.ver hx
      obtain ⟨b0, b1, b2, b3, b4, b5⟩ := HZ.out wr HB
      have hneg := HS.out.lo q x hlt hx
      obtain ⟨⟨ml', ct', vo', val', gn', tt'⟩, A', cc'⟩ := x
      have HC0 := fun W => ref_order ml' ct' vo' A' val'.length cc' gn' tt' ml ct vo A val.length cc gn tt W
      obtain ⟨qv, hq⟩ : ∃ qv, qv = or2 (cmp2 ml' ct' ml ct) (cmp1 vo' vo) := ⟨_, rfl⟩
      rw [← hq] at HC0
      have hneg' : qv < 0 := by rw [hq]; exact hneg
      have t1 : decide (qv < 0) = true := by simpa using hneg'
      have tl : decide ((q : Int) < (L.length : Int)) = true := by simpa using lq
      clear hneg hneg' hq hx
      have kc9 := fun d os => cell_regrown c9 d os
      have ka0 := fun d os => cell_regrown a0 d os
      have ka1 := fun d os => cell_regrown a1 d os
      have ka2 := fun d os => cell_regrown a2 d os
      have ka3 := fun d os => cell_regrown a3 d os
      have ka4 := fun d os => cell_regrown a4 d os
      have ka5 := fun d os => cell_regrown a5 d os
      have kb0 := fun d os => cell_regrown b0 d os
      have kb1 := fun d os => cell_regrown b1 d os
      have kb2 := fun d os => cell_regrown b2 d os
      have kb3 := fun d os => cell_regrown b3 d os
      have kb4 := fun d os => cell_regrown b4 d os
      have kb5 := fun d os => cell_regrown b5 d os
      have AC := Lib.hid fun (d' : Nat) (os : Array Obj) => Calls.regrown_of (HC0 (grow (redrawn wr d') os))
      clear c9 a0 a1 a2 a3 a4 a5 b0 b1 b2 b3 b4 b5 HC0 Hr
      go_wp2_with fail
      refine wp_region_quiet_below (by kernel_rfl) (by kernel_rfl) ?_
      repeat (go_big_quiet_step ((go_at_call 37; exact AC.out _ _)))
      refine wpQuiet_nil ?_
      intro _ hw'
      obtain ⟨⟨dq, osq⟩, hw''⟩ := hw'
      subst hw''
      have HBN := Lib.hid (HB.trans ((below_regrown wr dq osq).mono HB.size))
      go_wp2
      go_roundw
      case rel => exact ⟨q + 1, by go_num, by omega, HBN.out⟩
      case measure => simp [intOf]; omega
    · obtain rfl : q = k := by omega
      by_cases hqn : q < L.length
      · skip
        have lq : (q : Int) < (L.length : Int) := by omega
        obtain ⟨x, hx⟩ : ∃ x, L[q]? = some x := ⟨L[q]'(by omega), List.getElem?_eq_getElem _⟩
        have Hr := HH.out.below (HF.out wr HB)
        have c9 := Hr.c0
        obtain ⟨a0, a1, a2, a3, a4, a5⟩ := Hr.ver hx
        obtain ⟨b0, b1, b2, b3, b4, b5⟩ := HZ.out wr HB
        obtain ⟨⟨ml', ct', vo', val', gn', tt'⟩, A', cc'⟩ := x
        have HC0 := fun W => ref_order ml' ct' vo' A' val'.length cc' gn' tt' ml ct vo A val.length cc gn tt W
        obtain ⟨qv, hq⟩ : ∃ qv, qv = or2 (cmp2 ml' ct' ml ct) (cmp1 vo' vo) := ⟨_, rfl⟩
        rw [← hq] at HC0
        have hcv := HCV.out _ hx
        have hcv' : 0 < qv := by rw [hq]; exact hcv
        have t1 : decide (qv < 0) = false := by simp only [decide_eq_false_iff_not]; omega
        have t2 : (qv == 0) = false := beq_no (by omega)
        have tl : decide ((q : Int) < (L.length : Int)) = true := by simpa using lq
        have HC1 := Lib.hid HC0
        have HXX := Lib.hid hx
        have HBr := Lib.hid HB
        clear hcv hcv' hq hx
        have kc9 := fun d os => cell_regrown c9 d os
        have ka0 := fun d os => cell_regrown a0 d os
        have ka1 := fun d os => cell_regrown a1 d os
        have ka2 := fun d os => cell_regrown a2 d os
        have ka3 := fun d os => cell_regrown a3 d os
        have ka4 := fun d os => cell_regrown a4 d os
        have ka5 := fun d os => cell_regrown a5 d os
        have kb0 := fun d os => cell_regrown b0 d os
        have kb1 := fun d os => cell_regrown b1 d os
        have kb2 := fun d os => cell_regrown b2 d os
        have kb3 := fun d os => cell_regrown b3 d os
        have kb4 := fun d os => cell_regrown b4 d os
        have kb5 := fun d os => cell_regrown b5 d os
        have AC := Lib.hid fun (d' : Nat) (os : Array Obj) => Calls.regrown_of (HC0 (grow (redrawn wr d') os))
        clear c9 a0 a1 a2 a3 a4 a5 b0 b1 b2 b3 b4 b5 HC0 Hr
        go_wp2_with fail
        refine wp_region_quiet_below (by kernel_rfl) (by kernel_rfl) ?_
        repeat (go_big_quiet_step ((go_at_call 37; exact AC.out _ _)))
        refine wpQuiet_nil ?_
        intro _ hw'
        obtain ⟨⟨dq, osq⟩, hw''⟩ := hw'
        subst hw''
        have HBN := HBr.out.trans ((below_regrown wr dq osq).mono HBr.out.size)
        clear AC kc9 ka0 ka1 ka2 ka3 ka4 ka5 kb0 kb1 kb2 kb3 kb4 kb5
        generalize hgw : grow (redrawn wr dq) osq = w3 at *
        clear hgw
        obtain ⟨b0, b1, b2, b3, b4, b5⟩ := HZ.out w3 HBN
        have Hr := HH.out.below (HF.out w3 HBN)
        have c9 := Hr.c0
        obtain ⟨a0, a1, a2, a3, a4, a5⟩ := Hr.ver HXX.out
        have HBn := Lib.hid HBN
        have HC0 := HC1.out
        have kc9 := fun d os => cell_regrown c9 d os
        have ka0 := fun d os => cell_regrown a0 d os
        have ka1 := fun d os => cell_regrown a1 d os
        have ka2 := fun d os => cell_regrown a2 d os
        have ka3 := fun d os => cell_regrown a3 d os
        have ka4 := fun d os => cell_regrown a4 d os
        have ka5 := fun d os => cell_regrown a5 d os
        have kb0 := fun d os => cell_regrown b0 d os
        have kb1 := fun d os => cell_regrown b1 d os
        have kb2 := fun d os => cell_regrown b2 d os
        have kb3 := fun d os => cell_regrown b3 d os
        have kb4 := fun d os => cell_regrown b4 d os
        have kb5 := fun d os => cell_regrown b5 d os
        have AC := Lib.hid fun (d' : Nat) (os : Array Obj) => Calls.regrown_of (HC0 (grow (redrawn w3 d') os))
        clear c9 a0 a1 a2 a3 a4 a5 b0 b1 b2 b3 b4 b5 HC0 Hr HBN
        go_wp2_with fail
        refine wp_region_quiet_below (by kernel_rfl) (by kernel_rfl) ?_
        repeat (go_big_quiet_step ((go_at_call 37; exact AC.out _ _)))
        refine wpQuiet_nil ?_
        intro _ hw'
        obtain ⟨⟨dq, osq⟩, hw''⟩ := hw'
        subst hw''
        have HBM := Lib.hid (HBn.out.trans ((below_regrown w3 dq osq).mono HBn.out.size))
        clear AC kc9 ka0 ka1 ka2 ka3 ka4 ka5 kb0 kb1 kb2 kb3 kb4 kb5
        generalize hgw : grow (redrawn w3 dq) osq = w4 at *
        clear hgw
        go_wp2_with fail
        have HBV := Lib.hid (HBM.out.drew)
        have hS0 := And.intro (HZ.out _ HBV.out) (HH.out.below (HF.out _ HBV.out)).c0
        refine wp_region_held_drew (S := (fun w' => (w'.cell? ⟨w.heap.size, 0, none⟩ = some (.int .i64 ml) ∧ w'.cell? ⟨w.heap.size, 1, none⟩ = some (.int .i64 ct) ∧ w'.cell? ⟨w.heap.size, 2, none⟩ = some (.int .i64 vo) ∧ w'.cell? ⟨w.heap.size, 3, none⟩ = some (.slice A val.length cc) ∧ w'.cell? ⟨w.heap.size, 4, none⟩ = some (.bool gn) ∧ w'.cell? ⟨w.heap.size, 5, none⟩ = some (.int .i64 tt)) ∧ w'.cell? ⟨b, 0, none⟩ = some (.slice (some ⟨g0, 0, none⟩) L.length c0))) (by kernel_rfl) ?_ (fun hHeld => ?_)
        · exact hS0
        clear hS0
        generalize w4.drew = V0 at *
        refine wpAnyH_take (i := 1) (v := ?_) rfl (by kernel_rfl) (by kernel_rfl) (by kernel_rfl) (fun _ _ _ h => h) (Or.inl ⟨by rfl, ?_⟩) (by assumption) ?_
        rotate_left
        · intro w' hSw; (try dsimp only at hSw); go_simp; (try with_reducible rfl)
        (try simp only [Act.put, List.setIfInBounds_toArray, List.set_cons_zero, List.set_cons_succ, List.getElem_toArray, List.getElem_cons_succ, List.getElem_cons_zero])
        refine wpAnyH_take (i := 2) (v := ?_) rfl (by kernel_rfl) (by kernel_rfl) (by kernel_rfl) (fun _ _ _ h => h) (Or.inl ⟨by rfl, ?_⟩) (by assumption) ?_
        rotate_left
        · intro w' hSw; (try dsimp only at hSw); go_simp; (try with_reducible rfl)
        (try simp only [Act.put, List.setIfInBounds_toArray, List.set_cons_zero, List.set_cons_succ, List.getElem_toArray, List.getElem_cons_succ, List.getElem_cons_zero])
        refine wpAnyH_take (i := 3) (v := ?_) rfl (by kernel_rfl) (by kernel_rfl) (by kernel_rfl) (fun _ _ _ h => h) (Or.inl ⟨by rfl, ?_⟩) (by assumption) ?_
        rotate_left
        · intro w' hSw; (try dsimp only at hSw); go_simp; (try with_reducible rfl)
        (try simp only [Act.put, List.setIfInBounds_toArray, List.set_cons_zero, List.set_cons_succ, List.getElem_toArray, List.getElem_cons_succ, List.getElem_cons_zero])
        refine wpAnyH_take (i := 4) (v := ?_) rfl (by kernel_rfl) (by kernel_rfl) (by kernel_rfl) (fun _ _ _ h => h) (Or.inl ⟨by rfl, ?_⟩) (by assumption) ?_
        rotate_left
        · intro w' hSw; (try dsimp only at hSw); go_simp; (try with_reducible rfl)
        (try simp only [Act.put, List.setIfInBounds_toArray, List.set_cons_zero, List.set_cons_succ, List.getElem_toArray, List.getElem_cons_succ, List.getElem_cons_zero])
        refine wpAnyH_take (i := 5) (v := ?_) rfl (by kernel_rfl) (by kernel_rfl) (by kernel_rfl) (fun _ _ _ h => h) (Or.inl ⟨by rfl, ?_⟩) (by assumption) ?_
        rotate_left
        · intro w' hSw; (try dsimp only at hSw); go_simp; (try with_reducible rfl)
        (try simp only [Act.put, List.setIfInBounds_toArray, List.set_cons_zero, List.set_cons_succ, List.getElem_toArray, List.getElem_cons_succ, List.getElem_cons_zero])
        refine wpAnyH_take (i := 6) (v := ?_) rfl (by kernel_rfl) (by kernel_rfl) (by kernel_rfl) (fun _ _ _ h => h) (Or.inl ⟨by rfl, ?_⟩) (by assumption) ?_
        rotate_left
        · intro w' hSw; (try dsimp only at hSw); go_simp; (try with_reducible rfl)
        (try simp only [Act.put, List.setIfInBounds_toArray, List.set_cons_zero, List.set_cons_succ, List.getElem_toArray, List.getElem_cons_succ, List.getElem_cons_zero])
        refine wpAnyH_take (i := 8) (v := ?_) rfl (by kernel_rfl) (by kernel_rfl) (by kernel_rfl) (fun _ _ _ h => h) (Or.inl ⟨by rfl, ?_⟩) (by assumption) ?_
        rotate_left
        · intro w' hSw; (try dsimp only at hSw); go_simp; (try with_reducible rfl)
        (try simp only [Act.put, List.setIfInBounds_toArray, List.set_cons_zero, List.set_cons_succ, List.getElem_toArray, List.getElem_cons_succ, List.getElem_cons_zero])
        refine wpAnyH_ready (rs := [0]) (by kernel_rfl) (by simp) ?_
        refine AllReadyH.cons rfl (fun K hK => ?_) (AllReadyH.nil)
        go_simp
        have hba : Below V0.heap.size V0 (V0.alloc (.cells #[] 28)) := (Below.refl _ _).alloc (Nat.le_refl _) _
        have RW : Hid ((V0.alloc (.cells #[] 28)).ownsRow w1.heap.size 28 6 (.slice (some ⟨V0.heap.size, 0, none⟩) 0 0) 0 []) := Lib.hid (World.ownsRow_made (base := w1.heap.size) (e := 28) (size := 6) V0 #[] 0 HBV.out.size (Nat.zero_le _) rfl)
        have HBV := Lib.hid (HBV.out.trans (hba.mono HBV.out.size))
        clear hba
        generalize V0.heap.size = zb at *
        generalize V0.alloc (.cells #[] 28) = V1 at *
        (try dsimp only)
        refine hK.out _ _ ?_ (fun hHeld => ?_)
        · exact ⟨HZ.out _ HBV.out, (HH.out.below (HF.out _ HBV.out)).c0⟩
        clear hK K
        (try simp only [Act.put, List.setIfInBounds_toArray, List.set_cons_zero, List.set_cons_succ, List.getElem_toArray, List.getElem_cons_succ, List.getElem_cons_zero])
        refine wpAnyH_ready (rs := [7]) (by kernel_rfl) (by simp) ?_
        refine AllReadyH.cons rfl (fun K hK => ?_) (AllReadyH.nil)
        rw [if_pos (by rfl)]
        refine wp_append_own _ _ _ _ (by rfl) w1.heap.size 28 i0 _ 6 64 Try.underlying22 hi0 hz0 hz1 hz2 rfl (by decide) (.slice (some ⟨zb, 0, none⟩) 0 0) 0 [] (by rfl) RW.out ⟨g0, 0, none⟩ q c0 (rowV (L.take q)) (by rfl) HTL.out (fun j u hu => by rw [at_add, Nat.zero_add]; exact HTK.out _ (HF.out _ HBV.out) j u hu) (rowV_one1 _) (by unfold maxLen; omega) (by omega) HBV.out.size ?_
        intro v7 V2 hv7 hg7 _
        have hbt7 : But (fun i => (Value.slice (some ⟨zb, 0, none⟩) 0 0).ownBlock = some i) V1 V2 := But.of_grown hg7 (fun i hi => hi)
        have RV : Hid (V2.ownsRow w1.heap.size 28 6 v7 q (rowV (L.take q))) := Lib.hid (by simpa using hv7)
        have HBV := Lib.hid (HBV.out.grown hg7 HBV.out.size (fun i hi => (World.ownsRow.lt RW.out i hi).1))
        obtain ⟨A7, c7, rfl⟩ := row_shapeV RV.out
        clear hv7 hg7 hbt7
        (try dsimp only)
        refine hK.out _ _ ?_ (fun hHeld => ?_)
        · exact ⟨HZ.out _ HBV.out, (HH.out.below (HF.out _ HBV.out)).c0⟩
        clear hK K
        (try simp only [Act.put, List.setIfInBounds_toArray, List.set_cons_zero, List.set_cons_succ, List.getElem_toArray, List.getElem_cons_succ, List.getElem_cons_zero])
        refine wpAnyH_ready (rs := [9]) (by kernel_rfl) (by simp) ?_
        refine AllReadyH.cons rfl (fun K hK => ?_) (AllReadyH.nil)
        go_simp
        (go_at_call 38; refine (HCP.out _ (HP.out.below (HF.out _ HBV.out))).mono ?_; rintro e V3 ⟨A1, k1, rfl, ho1, hb1⟩)
        have HO1 := Lib.hid (own_base (base' := w.heap.size) (HF.out _ HBV.out).size ho1)
        have RV := Lib.hid (row_below RV.out hb1)
        have HBV := Lib.hid (HBV.out.trans (hb1.mono HBV.out.size))
        clear hb1 ho1
        (try dsimp only)
        refine hK.out _ _ ?_ (fun hHeld => ?_)
        · exact ⟨HZ.out _ HBV.out, (HH.out.below (HF.out _ HBV.out)).c0⟩
        clear hK K
        (try simp only [Act.put, List.setIfInBounds_toArray, List.set_cons_zero, List.set_cons_succ, List.getElem_toArray, List.getElem_cons_succ, List.getElem_cons_zero])
        refine wpAnyH_ready (rs := [10]) (by kernel_rfl) (by simp) ?_
        refine AllReadyH.cons rfl (fun K hK => ?_) (AllReadyH.nil)
        go_simp
        have hba : Below V3.heap.size V3 (V3.alloc (.cells #[.int .i64 ml, .int .i64 ct, .int .i64 vo, .slice A1 val.length k1, .bool gn, .int .i64 tt] 28)) := (Below.refl _ _).alloc (Nat.le_refl _) _
        have HONE : Hid (One (V3.alloc (.cells #[.int .i64 ml, .int .i64 ct, .int .i64 vo, .slice A1 val.length k1, .bool gn, .int .i64 tt] 28)) V3.heap.size ⟨⟨ml, ct, vo, val, gn, tt⟩, A1, k1⟩) := Lib.hid (heap_alloc_new V3 _)
        have HO1 := Lib.hid (row_below HO1.out hba)
        have RV := Lib.hid (row_below RV.out hba)
        have HBV := Lib.hid (HBV.out.trans (hba.mono HBV.out.size))
        clear hba
        generalize V3.heap.size = vb at *
        generalize V3.alloc (.cells #[.int .i64 ml, .int .i64 ct, .int .i64 vo, .slice A1 val.length k1, .bool gn, .int .i64 tt] 28) = V4 at *
        (try dsimp only)
        refine hK.out _ _ ?_ (fun hHeld => ?_)
        · exact ⟨HZ.out _ HBV.out, (HH.out.below (HF.out _ HBV.out)).c0⟩
        clear hK K
        (try simp only [Act.put, List.setIfInBounds_toArray, List.set_cons_zero, List.set_cons_succ, List.getElem_toArray, List.getElem_cons_succ, List.getElem_cons_zero])
        refine wpAnyH_ready (rs := [11]) (by kernel_rfl) (by simp) ?_
        refine AllReadyH.cons rfl (fun K hK => ?_) (AllReadyH.nil)
        rw [if_pos (by rfl)]
        refine wp_append_lies _ _ _ _ (by rfl) w1.heap.size 28 i0 _ 6 64 Try.underlying22 hi0 hz0 hz1 hz2 rfl (by decide) (Value.slice A7 q c7) q (rowV (L.take q)) (by rfl) RV.out ⟨vb, 0, none⟩ 1 1 [.int .i64 ml, .int .i64 ct, .int .i64 vo, .slice A1 val.length k1, .bool gn, .int .i64 tt] (by rfl) (by rfl) (World.news_of_block (cs := #[.int .i64 ml, .int .i64 ct, .int .i64 vo, .slice A1 val.length k1, .bool gn, .int .i64 tt]) (t := 28) (fr := (0, 0)) HONE.out) (by simp [Value.oneCell']) (by omega) (by unfold maxLen; omega) (by omega) HBV.out.size _ rfl ?_
        intro g8 c8 V5 hv8 hg8 _ _
        have hbt8 : But (fun i => (Value.slice A7 q c7).ownBlock = some i) V4 V5 := But.of_grown hg8 (fun i hi => hi)
        have RX : Hid (V5.ownsRow w1.heap.size 28 6 (.slice (some ⟨g8, 0, none⟩) (q + 1) c8) (q + 1) (rowV (L.take q ++ [⟨⟨ml, ct, vo, val, gn, tt⟩, A1, k1⟩]))) := Lib.hid (by rw [rowV_append, rowV_one]; exact hv8)
        have HO1 := Lib.hid (hbt8.row HO1.out (fun i hi e => rows_ne RV.out HO1.out (by decide) i e hi))
        have HBV := Lib.hid (HBV.out.grown hg8 HBV.out.size (fun i hi => (World.ownsRow.lt RV.out i hi).1))
        clear hv8 hg8 hbt8 HONE
        (try dsimp only)
        refine hK.out _ _ ?_ (fun hHeld => ?_)
        · exact ⟨HZ.out _ HBV.out, (HH.out.below (HF.out _ HBV.out)).c0⟩
        clear hK K
        (try simp only [Act.put, List.setIfInBounds_toArray, List.set_cons_zero, List.set_cons_succ, List.getElem_toArray, List.getElem_cons_succ, List.getElem_cons_zero])
        refine wpAnyH_take (i := 12) (v := ?_) rfl (by kernel_rfl) (by kernel_rfl) (by kernel_rfl) (fun _ _ _ h => h) (Or.inl ⟨by rfl, ?_⟩) (by assumption) ?_
        rotate_left
        · intro w' hSw; (try dsimp only at hSw); go_simp; (try with_reducible rfl)
        (try simp only [Act.put, List.setIfInBounds_toArray, List.set_cons_zero, List.set_cons_succ, List.getElem_toArray, List.getElem_cons_succ, List.getElem_cons_zero])
        refine wpAnyH_done (by kernel_rfl) ?_ _
        have c9 := (HH.out.below (HF.out _ HBV.out)).c0
        have f9 := (HH.out.below (HF.out _ HBV.out)).f0
        have e10 : q + 1 + (L.length - q) = L.length + 1 := by omega
        have HE10 := Lib.hid e10
        clear e10
        by_cases hcq : c0 = q
        · exact absurd hcq (by omega)
        · have hsrc9 := HDR1.out hcq _ (HF.out _ HBV.out)
          go_wp2_with (at_builtin; refine wpList_append_own _ rfl (.tmp 63) (.tmp 69) 22 rfl w1.heap.size 28 i0 _ 6 64 Try.underlying22 hi0 hz0 hz1 hz2 rfl (by decide) (.slice (some ⟨g8, 0, none⟩) (q + 1) c8) (q + 1) _ rfl RX.out ⟨g0, q * 6, none⟩ (L.length - q) _ (rowV (L.drop q)) rfl HDL.out hsrc9 (rowV_one1 _) (by unfold maxLen; omega) (by omega) HBV.out.size ?_; intro v9 V9 hv9 hg9 _; rw [HE10.out] at hv9; obtain ⟨A9, c9', rfl⟩ := row_shapeV hv9; have hbt9 : But (fun i => (Value.slice (some ⟨g8, 0, none⟩) (q + 1) c8).ownBlock = some i) V5 V9 := But.of_grown hg9 (fun i hi => hi); have HO9 := Lib.hid (hbt9.row HO1.out (fun i hi e => rows_ne RX.out HO1.out (by decide) i e hi)); have HBV9 := Lib.hid (HBV.out.grown hg9 HBV.out.size (fun i hi => (World.ownsRow.lt RX.out i hi).1)); have c99 := (HH.out.below (HF.out _ HBV9.out)).c0; have f99 := (HH.out.below (HF.out _ HBV9.out)).f0; have HFIN := Lib.hid (ref_fin (m := ⟨⟨ml, ct, vo, val, gn, tt⟩, A, cc⟩) (k := q) HH.out (HF.out _ HBV9.out) HO9.out hy hkl (by have e9 := own_base (base' := w.heap.size) HB1.out.size hv9; rw [← rowV_append, List.append_assoc] at e9; exact e9)); clear hv9 hg9 hbt9)
          (try go_wp2)
          go_ret
          exact ⟨rfl, HFIN.out⟩
      · skip
        have tl : decide ((q : Int) < (L.length : Int)) = false := by simp only [decide_eq_false_iff_not]; omega
        have Hr := HH.out.below (HF.out wr HB)
        have c9 := Hr.c0
        have HBr := Lib.hid HB
        have kc9 := fun d os => cell_regrown c9 d os
        clear c9 Hr
        go_wp2_with fail
        refine wp_region_quiet_below (by kernel_rfl) (by kernel_rfl) ?_
        repeat (go_big_quiet_step ((go_at_call 37; exact HX)))
        refine wpQuiet_nil ?_
        intro _ hw'
        obtain ⟨⟨dq, osq⟩, hw''⟩ := hw'
        subst hw''
        have HBN := HBr.out.trans ((below_regrown wr dq osq).mono HBr.out.size)
        clear kc9
        generalize hgw : grow (redrawn wr dq) osq = w3 at *
        clear hgw
        have Hr := HH.out.below (HF.out w3 HBN)
        have c9 := Hr.c0
        have HBn := Lib.hid HBN
        have kc9 := fun d os => cell_regrown c9 d os
        clear c9 Hr HBN
        go_wp2_with fail
        refine wp_region_quiet_below (by kernel_rfl) (by kernel_rfl) ?_
        repeat (go_big_quiet_step ((go_at_call 37; exact HX)))
        refine wpQuiet_nil ?_
        intro _ hw'
        obtain ⟨⟨dq, osq⟩, hw''⟩ := hw'
        subst hw''
        have HBM := Lib.hid (HBn.out.trans ((below_regrown w3 dq osq).mono HBn.out.size))
        clear kc9
        generalize hgw : grow (redrawn w3 dq) osq = w4 at *
        clear hgw
        go_wp2_with fail
        have HBV := Lib.hid (HBM.out.drew)
        have hS0 := And.intro (HZ.out _ HBV.out) (HH.out.below (HF.out _ HBV.out)).c0
        refine wp_region_held_drew (S := (fun w' => (w'.cell? ⟨w.heap.size, 0, none⟩ = some (.int .i64 ml) ∧ w'.cell? ⟨w.heap.size, 1, none⟩ = some (.int .i64 ct) ∧ w'.cell? ⟨w.heap.size, 2, none⟩ = some (.int .i64 vo) ∧ w'.cell? ⟨w.heap.size, 3, none⟩ = some (.slice A val.length cc) ∧ w'.cell? ⟨w.heap.size, 4, none⟩ = some (.bool gn) ∧ w'.cell? ⟨w.heap.size, 5, none⟩ = some (.int .i64 tt)) ∧ w'.cell? ⟨b, 0, none⟩ = some (.slice (some ⟨g0, 0, none⟩) L.length c0))) (by kernel_rfl) ?_ (fun hHeld => ?_)
        · exact hS0
        clear hS0
        generalize w4.drew = V0 at *
        refine wpAnyH_take (i := 1) (v := ?_) rfl (by kernel_rfl) (by kernel_rfl) (by kernel_rfl) (fun _ _ _ h => h) (Or.inl ⟨by rfl, ?_⟩) (by assumption) ?_
        rotate_left
        · intro w' hSw; (try dsimp only at hSw); go_simp; (try with_reducible rfl)
        (try simp only [Act.put, List.setIfInBounds_toArray, List.set_cons_zero, List.set_cons_succ, List.getElem_toArray, List.getElem_cons_succ, List.getElem_cons_zero])
        refine wpAnyH_take (i := 2) (v := ?_) rfl (by kernel_rfl) (by kernel_rfl) (by kernel_rfl) (fun _ _ _ h => h) (Or.inl ⟨by rfl, ?_⟩) (by assumption) ?_
        rotate_left
        · intro w' hSw; (try dsimp only at hSw); go_simp; (try with_reducible rfl)
        (try simp only [Act.put, List.setIfInBounds_toArray, List.set_cons_zero, List.set_cons_succ, List.getElem_toArray, List.getElem_cons_succ, List.getElem_cons_zero])
        refine wpAnyH_take (i := 3) (v := ?_) rfl (by kernel_rfl) (by kernel_rfl) (by kernel_rfl) (fun _ _ _ h => h) (Or.inl ⟨by rfl, ?_⟩) (by assumption) ?_
        rotate_left
        · intro w' hSw; (try dsimp only at hSw); go_simp; (try with_reducible rfl)
        (try simp only [Act.put, List.setIfInBounds_toArray, List.set_cons_zero, List.set_cons_succ, List.getElem_toArray, List.getElem_cons_succ, List.getElem_cons_zero])
        refine wpAnyH_take (i := 4) (v := ?_) rfl (by kernel_rfl) (by kernel_rfl) (by kernel_rfl) (fun _ _ _ h => h) (Or.inl ⟨by rfl, ?_⟩) (by assumption) ?_
        rotate_left
        · intro w' hSw; (try dsimp only at hSw); go_simp; (try with_reducible rfl)
        (try simp only [Act.put, List.setIfInBounds_toArray, List.set_cons_zero, List.set_cons_succ, List.getElem_toArray, List.getElem_cons_succ, List.getElem_cons_zero])
        refine wpAnyH_take (i := 5) (v := ?_) rfl (by kernel_rfl) (by kernel_rfl) (by kernel_rfl) (fun _ _ _ h => h) (Or.inl ⟨by rfl, ?_⟩) (by assumption) ?_
        rotate_left
        · intro w' hSw; (try dsimp only at hSw); go_simp; (try with_reducible rfl)
        (try simp only [Act.put, List.setIfInBounds_toArray, List.set_cons_zero, List.set_cons_succ, List.getElem_toArray, List.getElem_cons_succ, List.getElem_cons_zero])
        refine wpAnyH_take (i := 6) (v := ?_) rfl (by kernel_rfl) (by kernel_rfl) (by kernel_rfl) (fun _ _ _ h => h) (Or.inl ⟨by rfl, ?_⟩) (by assumption) ?_
        rotate_left
        · intro w' hSw; (try dsimp only at hSw); go_simp; (try with_reducible rfl)
        (try simp only [Act.put, List.setIfInBounds_toArray, List.set_cons_zero, List.set_cons_succ, List.getElem_toArray, List.getElem_cons_succ, List.getElem_cons_zero])
        refine wpAnyH_take (i := 8) (v := ?_) rfl (by kernel_rfl) (by kernel_rfl) (by kernel_rfl) (fun _ _ _ h => h) (Or.inl ⟨by rfl, ?_⟩) (by assumption) ?_
        rotate_left
        · intro w' hSw; (try dsimp only at hSw); go_simp; (try with_reducible rfl)
        (try simp only [Act.put, List.setIfInBounds_toArray, List.set_cons_zero, List.set_cons_succ, List.getElem_toArray, List.getElem_cons_succ, List.getElem_cons_zero])
        refine wpAnyH_ready (rs := [0]) (by kernel_rfl) (by simp) ?_
        refine AllReadyH.cons rfl (fun K hK => ?_) (AllReadyH.nil)
        go_simp
        have hba : Below V0.heap.size V0 (V0.alloc (.cells #[] 28)) := (Below.refl _ _).alloc (Nat.le_refl _) _
        have RW : Hid ((V0.alloc (.cells #[] 28)).ownsRow w1.heap.size 28 6 (.slice (some ⟨V0.heap.size, 0, none⟩) 0 0) 0 []) := Lib.hid (World.ownsRow_made (base := w1.heap.size) (e := 28) (size := 6) V0 #[] 0 HBV.out.size (Nat.zero_le _) rfl)
        have HBV := Lib.hid (HBV.out.trans (hba.mono HBV.out.size))
        clear hba
        generalize V0.heap.size = zb at *
        generalize V0.alloc (.cells #[] 28) = V1 at *
        (try dsimp only)
        refine hK.out _ _ ?_ (fun hHeld => ?_)
        · exact ⟨HZ.out _ HBV.out, (HH.out.below (HF.out _ HBV.out)).c0⟩
        clear hK K
        (try simp only [Act.put, List.setIfInBounds_toArray, List.set_cons_zero, List.set_cons_succ, List.getElem_toArray, List.getElem_cons_succ, List.getElem_cons_zero])
        refine wpAnyH_ready (rs := [7]) (by kernel_rfl) (by simp) ?_
        refine AllReadyH.cons rfl (fun K hK => ?_) (AllReadyH.nil)
        rw [if_pos (by rfl)]
        refine wp_append_own _ _ _ _ (by rfl) w1.heap.size 28 i0 _ 6 64 Try.underlying22 hi0 hz0 hz1 hz2 rfl (by decide) (.slice (some ⟨zb, 0, none⟩) 0 0) 0 [] (by rfl) RW.out ⟨g0, 0, none⟩ q c0 (rowV (L.take q)) (by rfl) HTL.out (fun j u hu => by rw [at_add, Nat.zero_add]; exact HTK.out _ (HF.out _ HBV.out) j u hu) (rowV_one1 _) (by unfold maxLen; omega) (by omega) HBV.out.size ?_
        intro v7 V2 hv7 hg7 _
        have hbt7 : But (fun i => (Value.slice (some ⟨zb, 0, none⟩) 0 0).ownBlock = some i) V1 V2 := But.of_grown hg7 (fun i hi => hi)
        have RV : Hid (V2.ownsRow w1.heap.size 28 6 v7 q (rowV (L.take q))) := Lib.hid (by simpa using hv7)
        have HBV := Lib.hid (HBV.out.grown hg7 HBV.out.size (fun i hi => (World.ownsRow.lt RW.out i hi).1))
        obtain ⟨A7, c7, rfl⟩ := row_shapeV RV.out
        clear hv7 hg7 hbt7
        (try dsimp only)
        refine hK.out _ _ ?_ (fun hHeld => ?_)
        · exact ⟨HZ.out _ HBV.out, (HH.out.below (HF.out _ HBV.out)).c0⟩
        clear hK K
        (try simp only [Act.put, List.setIfInBounds_toArray, List.set_cons_zero, List.set_cons_succ, List.getElem_toArray, List.getElem_cons_succ, List.getElem_cons_zero])
        refine wpAnyH_ready (rs := [9]) (by kernel_rfl) (by simp) ?_
        refine AllReadyH.cons rfl (fun K hK => ?_) (AllReadyH.nil)
        go_simp
        (go_at_call 38; refine (HCP.out _ (HP.out.below (HF.out _ HBV.out))).mono ?_; rintro e V3 ⟨A1, k1, rfl, ho1, hb1⟩)
        have HO1 := Lib.hid (own_base (base' := w.heap.size) (HF.out _ HBV.out).size ho1)
        have RV := Lib.hid (row_below RV.out hb1)
        have HBV := Lib.hid (HBV.out.trans (hb1.mono HBV.out.size))
        clear hb1 ho1
        (try dsimp only)
        refine hK.out _ _ ?_ (fun hHeld => ?_)
        · exact ⟨HZ.out _ HBV.out, (HH.out.below (HF.out _ HBV.out)).c0⟩
        clear hK K
        (try simp only [Act.put, List.setIfInBounds_toArray, List.set_cons_zero, List.set_cons_succ, List.getElem_toArray, List.getElem_cons_succ, List.getElem_cons_zero])
        refine wpAnyH_ready (rs := [10]) (by kernel_rfl) (by simp) ?_
        refine AllReadyH.cons rfl (fun K hK => ?_) (AllReadyH.nil)
        go_simp
        have hba : Below V3.heap.size V3 (V3.alloc (.cells #[.int .i64 ml, .int .i64 ct, .int .i64 vo, .slice A1 val.length k1, .bool gn, .int .i64 tt] 28)) := (Below.refl _ _).alloc (Nat.le_refl _) _
        have HONE : Hid (One (V3.alloc (.cells #[.int .i64 ml, .int .i64 ct, .int .i64 vo, .slice A1 val.length k1, .bool gn, .int .i64 tt] 28)) V3.heap.size ⟨⟨ml, ct, vo, val, gn, tt⟩, A1, k1⟩) := Lib.hid (heap_alloc_new V3 _)
        have HO1 := Lib.hid (row_below HO1.out hba)
        have RV := Lib.hid (row_below RV.out hba)
        have HBV := Lib.hid (HBV.out.trans (hba.mono HBV.out.size))
        clear hba
        generalize V3.heap.size = vb at *
        generalize V3.alloc (.cells #[.int .i64 ml, .int .i64 ct, .int .i64 vo, .slice A1 val.length k1, .bool gn, .int .i64 tt] 28) = V4 at *
        (try dsimp only)
        refine hK.out _ _ ?_ (fun hHeld => ?_)
        · exact ⟨HZ.out _ HBV.out, (HH.out.below (HF.out _ HBV.out)).c0⟩
        clear hK K
        (try simp only [Act.put, List.setIfInBounds_toArray, List.set_cons_zero, List.set_cons_succ, List.getElem_toArray, List.getElem_cons_succ, List.getElem_cons_zero])
        refine wpAnyH_ready (rs := [11]) (by kernel_rfl) (by simp) ?_
        refine AllReadyH.cons rfl (fun K hK => ?_) (AllReadyH.nil)
        rw [if_pos (by rfl)]
        refine wp_append_lies _ _ _ _ (by rfl) w1.heap.size 28 i0 _ 6 64 Try.underlying22 hi0 hz0 hz1 hz2 rfl (by decide) (Value.slice A7 q c7) q (rowV (L.take q)) (by rfl) RV.out ⟨vb, 0, none⟩ 1 1 [.int .i64 ml, .int .i64 ct, .int .i64 vo, .slice A1 val.length k1, .bool gn, .int .i64 tt] (by rfl) (by rfl) (World.news_of_block (cs := #[.int .i64 ml, .int .i64 ct, .int .i64 vo, .slice A1 val.length k1, .bool gn, .int .i64 tt]) (t := 28) (fr := (0, 0)) HONE.out) (by simp [Value.oneCell']) (by omega) (by unfold maxLen; omega) (by omega) HBV.out.size _ rfl ?_
        intro g8 c8 V5 hv8 hg8 _ _
        have hbt8 : But (fun i => (Value.slice A7 q c7).ownBlock = some i) V4 V5 := But.of_grown hg8 (fun i hi => hi)
        have RX : Hid (V5.ownsRow w1.heap.size 28 6 (.slice (some ⟨g8, 0, none⟩) (q + 1) c8) (q + 1) (rowV (L.take q ++ [⟨⟨ml, ct, vo, val, gn, tt⟩, A1, k1⟩]))) := Lib.hid (by rw [rowV_append, rowV_one]; exact hv8)
        have HO1 := Lib.hid (hbt8.row HO1.out (fun i hi e => rows_ne RV.out HO1.out (by decide) i e hi))
        have HBV := Lib.hid (HBV.out.grown hg8 HBV.out.size (fun i hi => (World.ownsRow.lt RV.out i hi).1))
        clear hv8 hg8 hbt8 HONE
        (try dsimp only)
        refine hK.out _ _ ?_ (fun hHeld => ?_)
        · exact ⟨HZ.out _ HBV.out, (HH.out.below (HF.out _ HBV.out)).c0⟩
        clear hK K
        (try simp only [Act.put, List.setIfInBounds_toArray, List.set_cons_zero, List.set_cons_succ, List.getElem_toArray, List.getElem_cons_succ, List.getElem_cons_zero])
        refine wpAnyH_take (i := 12) (v := ?_) rfl (by kernel_rfl) (by kernel_rfl) (by kernel_rfl) (fun _ _ _ h => h) (Or.inl ⟨by rfl, ?_⟩) (by assumption) ?_
        rotate_left
        · intro w' hSw; (try dsimp only at hSw); go_simp; (try with_reducible rfl)
        (try simp only [Act.put, List.setIfInBounds_toArray, List.set_cons_zero, List.set_cons_succ, List.getElem_toArray, List.getElem_cons_succ, List.getElem_cons_zero])
        refine wpAnyH_done (by kernel_rfl) ?_ _
        have c9 := (HH.out.below (HF.out _ HBV.out)).c0
        have f9 := (HH.out.below (HF.out _ HBV.out)).f0
        have e10 : q + 1 + (L.length - q) = L.length + 1 := by omega
        have HE10 := Lib.hid e10
        clear e10
        by_cases hcq : c0 = q
        · have hsrc9 := HDR0.out hcq _ (HF.out _ HBV.out)
          go_wp2_with (at_builtin; refine wpList_append_own _ rfl (.tmp 63) (.tmp 69) 22 rfl w1.heap.size 28 i0 _ 6 64 Try.underlying22 hi0 hz0 hz1 hz2 rfl (by decide) (.slice (some ⟨g8, 0, none⟩) (q + 1) c8) (q + 1) _ rfl RX.out ⟨g0, 0, none⟩ (L.length - q) _ (rowV (L.drop q)) rfl HDL.out hsrc9 (rowV_one1 _) (by unfold maxLen; omega) (by omega) HBV.out.size ?_; intro v9 V9 hv9 hg9 _; rw [HE10.out] at hv9; obtain ⟨A9, c9', rfl⟩ := row_shapeV hv9; have hbt9 : But (fun i => (Value.slice (some ⟨g8, 0, none⟩) (q + 1) c8).ownBlock = some i) V5 V9 := But.of_grown hg9 (fun i hi => hi); have HO9 := Lib.hid (hbt9.row HO1.out (fun i hi e => rows_ne RX.out HO1.out (by decide) i e hi)); have HBV9 := Lib.hid (HBV.out.grown hg9 HBV.out.size (fun i hi => (World.ownsRow.lt RX.out i hi).1)); have c99 := (HH.out.below (HF.out _ HBV9.out)).c0; have f99 := (HH.out.below (HF.out _ HBV9.out)).f0; have HFIN := Lib.hid (ref_fin (m := ⟨⟨ml, ct, vo, val, gn, tt⟩, A, cc⟩) (k := q) HH.out (HF.out _ HBV9.out) HO9.out hy hkl (by have e9 := own_base (base' := w.heap.size) HB1.out.size hv9; rw [← rowV_append, List.append_assoc] at e9; exact e9)); clear hv9 hg9 hbt9)
          (try go_wp2)
          go_ret
          exact ⟨rfl, HFIN.out⟩
        · have hsrc9 := HDR1.out hcq _ (HF.out _ HBV.out)
          go_wp2_with (at_builtin; refine wpList_append_own _ rfl (.tmp 63) (.tmp 69) 22 rfl w1.heap.size 28 i0 _ 6 64 Try.underlying22 hi0 hz0 hz1 hz2 rfl (by decide) (.slice (some ⟨g8, 0, none⟩) (q + 1) c8) (q + 1) _ rfl RX.out ⟨g0, q * 6, none⟩ (L.length - q) _ (rowV (L.drop q)) rfl HDL.out hsrc9 (rowV_one1 _) (by unfold maxLen; omega) (by omega) HBV.out.size ?_; intro v9 V9 hv9 hg9 _; rw [HE10.out] at hv9; obtain ⟨A9, c9', rfl⟩ := row_shapeV hv9; have hbt9 : But (fun i => (Value.slice (some ⟨g8, 0, none⟩) (q + 1) c8).ownBlock = some i) V5 V9 := But.of_grown hg9 (fun i hi => hi); have HO9 := Lib.hid (hbt9.row HO1.out (fun i hi e => rows_ne RX.out HO1.out (by decide) i e hi)); have HBV9 := Lib.hid (HBV.out.grown hg9 HBV.out.size (fun i hi => (World.ownsRow.lt RX.out i hi).1)); have c99 := (HH.out.below (HF.out _ HBV9.out)).c0; have f99 := (HH.out.below (HF.out _ HBV9.out)).f0; have HFIN := Lib.hid (ref_fin (m := ⟨⟨ml, ct, vo, val, gn, tt⟩, A, cc⟩) (k := q) HH.out (HF.out _ HBV9.out) HO9.out hy hkl (by have e9 := own_base (base' := w.heap.size) HB1.out.size hv9; rw [← rowV_append, List.append_assoc] at e9; exact e9)); clear hv9 hg9 hbt9)
          (try go_wp2)
          go_ret
          exact ⟨rfl, HFIN.out⟩
theorem ref_put (P : Nat → Prop) (b : Nat) (v : Value) (L : List Mv) (m : Mv) (w : World) (h : Ch P w b v L) (hr : Rise (L.map Mv.v)) (hl : L.length ≤ 1000000) (hm : m.At (fun _ => True) w) :
    Calls Try.prog 16 #[.pointer (some ⟨b, 0, none⟩), m.val] w fun e w' => PutAns P b v L m w w' e := by
  cases ho : m.v.ok with
  | false =>
    have he : putE (L.map Mv.v) m.v = 1 := by unfold putE; simp [ho]
    refine (ref_put_no b m w ho).mono ?_
    rintro e w' ⟨rfl, hb⟩
    exact .inl ⟨by omega, by rw [he], hb⟩
  | true =>
    have hs := stand_v hr m.v
    have ha := has_v (L := L) m.v
    cases hh : hasAt (L.map Mv.v) m.v with
    | true =>
      rw [hh] at ha
      have he : putE (L.map Mv.v) m.v = 8 := by unfold putE; simp [ho, hh]
      refine (ref_put_has P b v L m _ w h hl ho hs ha).mono ?_
      rintro e w' ⟨rfl, hb⟩
      exact .inl ⟨by omega, by rw [he], hb⟩
    | false =>
      rw [hh] at ha
      have he : putE (L.map Mv.v) m.v = 0 := by unfold putE; simp [ho, hh]
      have hvl : m.v.val.length ≤ 100000 := by
        have : okV m.v.ml m.v.ct m.v.vo m.v.val.length m.v.gone m.v.tt = true := ho
        simp [okV] at this
        omega
      have key : Calls Try.prog 16 #[.pointer (some ⟨b, 0, none⟩), m.val] w fun e w' => e = .returned (.int .i64 0) ∧ PutMore P b v L m (posV (L.map Mv.v) m.v) w w' := by
        obtain ⟨A0, c0, rfl⟩ := h.shape
        cases A0 with
        | none => exact ref_put_okN P b c0 L m _ w h hl ho hs hm.b hm.n hm.y hvl
        | some ad =>
          obtain ⟨g0, rfl⟩ : ∃ g0, ad = ⟨g0, 0, none⟩ := by
            rcases h.row.2 with ⟨e, _⟩ | ⟨g, cap, cur, e, _⟩
            · cases e
            · injection e with e1
              injection e1 with e1
              exact ⟨g, e1⟩
          exact ref_put_okS P b g0 c0 L m _ w h hl ho hs ha hm.b hm.n hm.y hvl
      refine key.mono ?_
      rintro e w' ⟨rfl, v', A, c, hc, hb⟩
      refine .inr ⟨he, rfl, v', _, hc, ?_, hb⟩
      simp [putL, List.map_take, List.map_drop]
end Go.Proofs.Ytfjnjababehmmaa
