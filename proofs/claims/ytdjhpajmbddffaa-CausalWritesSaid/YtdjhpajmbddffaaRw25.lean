/- Stage 25: the reference's Writes of any events (written by gen/rw25.py). -/
import Derived.Test.YtdjhpajmbddffaaWr25
set_option linter.unusedSimpArgs false
set_option linter.unusedVariables false
namespace Go.Proofs.Ytdjhpajmbddffaa
open Go.RowKit

set_option maxRecDepth 100000 in
set_option maxHeartbeats 16000000 in
theorem ref_writes25 (B O c : Nat) (L : List Ev) (pv : Nat → List Int) (w : World) (h : RowE w B O L) (hl : L.length ≤ 1000)
    (hE : ∀ k e, L[k]? = some e → e.vl = (pv k).length ∧ ByL w e.A (pv k) ∧ (e.A = none → (pv k).length = 0) ∧ (pv k).length ≤ 100000) :
    Calls Try.prog 8 #[.slice (some ⟨B, O, none⟩) L.length c] w fun e' w' => (∃ v L', e' = .returned v ∧ Wr5 w.heap.size w' v L' ∧ L'.map Wq.m = wsN L pv L.length) ∧ Below w.heap.size w w' := by
  obtain ⟨i0, hi0, hz0, hz1, hz2⟩ := info_parts rw_info
  obtain ⟨i8, hi8, hy0, hy1, hy2⟩ := info_parts u8_info
  have HR := Lib.hid h
  have HEE := Lib.hid hE
  clear h hE
  go_enter Try.func8, Try.ntmps8
  go_wp2_with fail
  go_loopw [4, 3] (fun i v wr => ∃ (k : Nat) (L' : List Wq), k ≤ L.length ∧ i = .int .i64 (k : Int) ∧ Wr5 w.heap.size wr v L' ∧ L'.map Wq.m = wsN L pv k ∧ L'.length ≤ k ∧ Below w.heap.size w wr) (fun i _ _ => (1001 - intOf i).toNat)
  case atStart => exact ⟨0, [], by omega, by simp, Wr5.nil _ _, rfl, by simp, Below.refl _ _⟩
  case round =>
    obtain ⟨k, L', hk, rfl, hws, hmap, hlen, hb⟩ := hrel
    have HB := Lib.hid hb
    have wk : IntKind.i64.wrap ((k : Int) + 1) = (k : Int) + 1 := IntWalk.i64_in _ (by omega)
    obtain ⟨Av, cv, rfl⟩ := row_shapeR5 hws.row
    have HWS := Lib.hid hws
    have HMAP := Lib.hid hmap
    clear hb hws hmap
    by_cases h1 : k < L.length
    · have t1 : decide ((k : Int) < (L.length : Int)) = true := by simpa using h1
      have hki : (k : Int) < (L.length : Int) := by omega
      obtain ⟨e, he⟩ : ∃ e, L[k]? = some e := ⟨_, List.getElem?_eq_getElem h1⟩
      have hrg := Ev.range (HR.out.below HB.out) he
      have hBw : B < wr.heap.size := (HR.out.below HB.out).1
      have HE := Lib.hid he
      have H1 := Lib.hid h1
      obtain ⟨hvl, hpb, hpn, hpl⟩ := HEE.out k e he
      have HVL := Lib.hid hvl
      have HPB := Lib.hid hpb
      have HPN := Lib.hid hpn
      have HPL := Lib.hid hpl
      have hst : wr.rangeAt B (O + k * 18 + 1) e.st := fun j u hu => by
        have := hrg (1 + j) u (by rw [e.st_eq, List.getElem?_take] at hu; split at hu; · rwa [List.getElem?_drop] at hu
                                  · cases hu)
        rwa [← Nat.add_assoc] at this
      have han : wr.rangeAt B (O + k * 18 + 11) e.an_ := fun j u hu => by
        have := hrg (11 + j) u (by rw [e.an_eq, List.getElem?_take] at hu; split at hu; · rwa [List.getElem?_drop] at hu
                                   · cases hu)
        rwa [← Nat.add_assoc] at this
      have hwho : wr.cell? ⟨B, O + k * 18, none⟩ = some (.int .i64 e.who) := hrg 0 _ rfl
      clear he hk hrg h1 hvl hpb hpn hpl
      go_upto_region 5 with fail
      go_cut [5, 6] from 14 to 23 (fun p5 p6 wx => ∃ s q, p5 = .pointer (some ⟨s, 0, none⟩) ∧ p6 = .pointer (some ⟨q, 0, none⟩) ∧ wx.rangeAt s 0 e.st ∧ wx.rangeAt q 0 e.an_ ∧ s < wx.heap.size ∧ q < wx.heap.size ∧ wr.heap.size ≤ s ∧ wr.heap.size ≤ q ∧ Below wr.heap.size wr wx)
      case first =>
        as_aux_lemma =>
        refine wp_region_held_drew (S := fun w' => w'.rangeAt B (O + k * 18 + 1) e.st ∧ w'.rangeAt B (O + k * 18 + 11) e.an_) (by kernel_rfl) ?_ (fun hHeld => ?_)
        · exact ⟨hst, han⟩
        have k1 : Below wr.heap.size wr wr.drew := (Below.refl _ _).drew
        obtain ⟨V1, hV1⟩ : ∃ V1, wr.drew = V1 := ⟨_, rfl⟩
        rw [hV1] at k1 hHeld ⊢
        clear hV1
        have r11 := range_below hst k1 hBw
        have r21 := range_below han k1 hBw
        have lb1 := Nat.lt_of_lt_of_le hBw k1.size
        have HB1 := Lib.hid k1
        clear k1 hst han hBw hwho
        refine tk9 0 ?_
        refine tk9 1 ?_
        refine tk9 2 ?_
        refine tk9 3 ?_
        refine tk9 4 (hy := yieldsIf_load_mid (by rfl) 56 (.tmp 17) rfl B (O + k * 18 + 1) rfl e.st _ (fun w' hw => hw.1) Try.underlying56 rfl rst_info) ?_
        refine tk9 5 ?_
        refine tk9 6 ?_
        refine tk9 7 ?_
        refine tk9 8 ?_
        refine tk9 9 (hy := yieldsIf_load_mid (by rfl) 58 (.tmp 22) rfl B (O + k * 18 + 11) rfl e.an_ _ (fun w' hw => hw.2) Try.underlying58 rfl ran_info) ?_
        refine wpAnyH_ready (rs := [10, 11]) (by kernel_rfl) (by simp) ?_
        refine AllReadyH.cons rfl (fun K hK => ?_) (AllReadyH.cons rfl (fun K hK => ?_) (AllReadyH.nil))
        · go_simp
          (try dsimp only)
          obtain ⟨V2, hV2⟩ : ∃ V, V1.alloc (.cells #[.int .i64 0, .int .i64 0, .int .i64 0, .int .i64 0, .int .u8 0, .int .i64 0, .int .i64 0, .string ⟨#[]⟩, .string ⟨#[]⟩, .slice none 0 0] 56) = V := ⟨_, rfl⟩
          have k2 : Below V1.heap.size V1 V2 := by rw [← hV2]; exact (Below.refl _ _).alloc (Nat.le_refl _) _
          have fs2 : V2.there V1.heap.size 0 10 := by rw [← hV2]; exact there_new V1 _ _
          have ls2 : V1.heap.size < V2.heap.size := by rw [← hV2]; simp
          rw [hV2]
          clear hV2
          have r12 := range_below r11 k2 lb1
          have r22 := range_below r21 k2 lb1
          have lb2 := Nat.lt_of_lt_of_le lb1 k2.size
          have HB2 := Lib.hid (HB1.out.trans (k2.mono HB1.out.size))
          have ws : wr.heap.size ≤ V1.heap.size := HB1.out.size
          have xs : B < V1.heap.size := lb1
          refine hK.out _ _ ?_ (fun hHeld => ?_)
          · exact ⟨r12, r22⟩
          clear hK K k2 r11 r21
          (try simp only [Act.put, List.setIfInBounds_toArray, List.set_cons_zero, List.set_cons_succ, List.getElem_toArray, List.getElem_cons_succ, List.getElem_cons_zero])
          generalize V1.heap.size = s at *
          refine wpAnyH_ready (rs := [11]) (by kernel_rfl) (by simp) ?_
          refine AllReadyH.cons rfl (fun K hK => ?_) (AllReadyH.nil)
          go_simp
          (try dsimp only)
          obtain ⟨V3, hV3⟩ : ∃ V, V2.alloc (.cells #[.int .i64 0, .int .i64 0, .int .i64 0, .int .i64 0, .bool false, .slice none 0 0, .slice none 0 0] 58) = V := ⟨_, rfl⟩
          have k3 : Below V2.heap.size V2 V3 := by rw [← hV3]; exact (Below.refl _ _).alloc (Nat.le_refl _) _
          have fq3 : V3.there V2.heap.size 0 7 := by rw [← hV3]; exact there_new V2 _ _
          have lq3 : V2.heap.size < V3.heap.size := by rw [← hV3]; simp
          rw [hV3]
          clear hV3
          have fs3 := there_below fs2 k3 ls2
          have ls3 := Nat.lt_of_lt_of_le ls2 k3.size
          have hn3 : s ≠ V2.heap.size := Nat.ne_of_lt ls2
          have r13 := range_below r12 k3 lb2
          have r23 := range_below r22 k3 lb2
          have lb3 := Nat.lt_of_lt_of_le lb2 k3.size
          have HB3 := Lib.hid (HB2.out.trans (k3.mono HB2.out.size))
          have wq : wr.heap.size ≤ V2.heap.size := HB2.out.size
          have xq : B < V2.heap.size := lb2
          refine hK.out _ _ ?_ (fun hHeld => ?_)
          · exact ⟨r13, r23⟩
          clear hK K k3 r12 r22
          (try simp only [Act.put, List.setIfInBounds_toArray, List.set_cons_zero, List.set_cons_succ, List.getElem_toArray, List.getElem_cons_succ, List.getElem_cons_zero])
          generalize V2.heap.size = q at *
          refine wpAnyH_ready (rs := [12]) (by kernel_rfl) (by simp) ?_
          refine AllReadyH.cons rfl (fun K hK => ?_) (AllReadyH.nil)
          rw [if_pos (by rfl)]
          refine wp_store_mid 56 (.tmp 5) (.tmp 18) rfl s 0 e.st.toArray rfl rfl fs3 rst_info e.st_one ?_
          obtain ⟨V4, hV4⟩ : ∃ V, V3.setCells s 0 e.st.toArray.toList = V := ⟨_, rfl⟩
          have HB4 : Hid (Below wr.heap.size wr V4) := Lib.hid (by rw [← hV4]; exact below_setCells _ _ ws _ _ _ _ HB3.out)
          have fs4 : V4.rangeAt s 0 e.st := by rw [← hV4]; exact World.rangeAt_setCells_same V3 s 0 e.st fs3
          have ls4 : s < V4.heap.size := by rw [← hV4, setCells_size]; exact ls3
          have lb4 : B < V4.heap.size := by rw [← hV4, setCells_size]; exact lb3
          have r14 : V4.rangeAt B (O + k * 18 + 1) e.st := by rw [← hV4]; exact World.rangeAt_setCells_apart r13 s 0 _ (.inl (Nat.ne_of_lt xs))
          have r24 : V4.rangeAt B (O + k * 18 + 11) e.an_ := by rw [← hV4]; exact World.rangeAt_setCells_apart r23 s 0 _ (.inl (Nat.ne_of_lt xs))
          have fq4 : V4.there q 0 7 := by rw [← hV4]; exact World.there_setCells fq3 s 0 _
          have lq4 : q < V4.heap.size := by rw [← hV4, setCells_size]; exact lq3
          rw [hV4]
          refine hK.out _ _ ?_ (fun hHeld => ?_)
          · exact ⟨r14, r24⟩
          clear hK K hV4 r13 r23
          (try simp only [Act.put, List.setIfInBounds_toArray, List.set_cons_zero, List.set_cons_succ, List.getElem_toArray, List.getElem_cons_succ, List.getElem_cons_zero])
          refine wpAnyH_ready (rs := [13]) (by kernel_rfl) (by simp) ?_
          refine AllReadyH.cons rfl (fun K hK => ?_) (AllReadyH.nil)
          rw [if_pos (by rfl)]
          refine wp_store_mid 58 (.tmp 6) (.tmp 23) rfl q 0 e.an_.toArray rfl rfl fq4 ran_info e.an_one ?_
          obtain ⟨V5, hV5⟩ : ∃ V, V4.setCells q 0 e.an_.toArray.toList = V := ⟨_, rfl⟩
          have HB5 : Hid (Below wr.heap.size wr V5) := Lib.hid (by rw [← hV5]; exact below_setCells _ _ wq _ _ _ _ HB4.out)
          have fq5 : V5.rangeAt q 0 e.an_ := by rw [← hV5]; exact World.rangeAt_setCells_same V4 q 0 e.an_ fq4
          have lq5 : q < V5.heap.size := by rw [← hV5, setCells_size]; exact lq4
          have lb5 : B < V5.heap.size := by rw [← hV5, setCells_size]; exact lb4
          have r15 : V5.rangeAt B (O + k * 18 + 1) e.st := by rw [← hV5]; exact World.rangeAt_setCells_apart r14 q 0 _ (.inl (Nat.ne_of_lt xq))
          have r25 : V5.rangeAt B (O + k * 18 + 11) e.an_ := by rw [← hV5]; exact World.rangeAt_setCells_apart r24 q 0 _ (.inl (Nat.ne_of_lt xq))
          have fs5 : V5.rangeAt s 0 e.st := by rw [← hV5]; exact World.rangeAt_setCells_apart fs4 q 0 _ (.inl (by omega))
          have ls5 : s < V5.heap.size := by rw [← hV5, setCells_size]; exact ls4
          rw [hV5]
          refine hK.out _ _ ?_ (fun hHeld => ?_)
          · exact ⟨r15, r25⟩
          clear hK K hV5 r14 r24
          (try simp only [Act.put, List.setIfInBounds_toArray, List.set_cons_zero, List.set_cons_succ, List.getElem_toArray, List.getElem_cons_succ, List.getElem_cons_zero])
          refine wpAnyH_done (by kernel_rfl) ?_ _
          go_wp2_with fail
          go_meet
          exact ⟨s, q, rfl, rfl, fs5, fq5, ls5, lq5, ws, wq, HB5.out⟩
        · go_simp
          (try dsimp only)
          obtain ⟨V2, hV2⟩ : ∃ V, V1.alloc (.cells #[.int .i64 0, .int .i64 0, .int .i64 0, .int .i64 0, .bool false, .slice none 0 0, .slice none 0 0] 58) = V := ⟨_, rfl⟩
          have k2 : Below V1.heap.size V1 V2 := by rw [← hV2]; exact (Below.refl _ _).alloc (Nat.le_refl _) _
          have fq2 : V2.there V1.heap.size 0 7 := by rw [← hV2]; exact there_new V1 _ _
          have lq2 : V1.heap.size < V2.heap.size := by rw [← hV2]; simp
          rw [hV2]
          clear hV2
          have r12 := range_below r11 k2 lb1
          have r22 := range_below r21 k2 lb1
          have lb2 := Nat.lt_of_lt_of_le lb1 k2.size
          have HB2 := Lib.hid (HB1.out.trans (k2.mono HB1.out.size))
          have wq : wr.heap.size ≤ V1.heap.size := HB1.out.size
          have xq : B < V1.heap.size := lb1
          refine hK.out _ _ ?_ (fun hHeld => ?_)
          · exact ⟨r12, r22⟩
          clear hK K k2 r11 r21
          (try simp only [Act.put, List.setIfInBounds_toArray, List.set_cons_zero, List.set_cons_succ, List.getElem_toArray, List.getElem_cons_succ, List.getElem_cons_zero])
          generalize V1.heap.size = q at *
          refine wpAnyH_ready (rs := [10]) (by kernel_rfl) (by simp) ?_
          refine AllReadyH.cons rfl (fun K hK => ?_) (AllReadyH.nil)
          go_simp
          (try dsimp only)
          obtain ⟨V3, hV3⟩ : ∃ V, V2.alloc (.cells #[.int .i64 0, .int .i64 0, .int .i64 0, .int .i64 0, .int .u8 0, .int .i64 0, .int .i64 0, .string ⟨#[]⟩, .string ⟨#[]⟩, .slice none 0 0] 56) = V := ⟨_, rfl⟩
          have k3 : Below V2.heap.size V2 V3 := by rw [← hV3]; exact (Below.refl _ _).alloc (Nat.le_refl _) _
          have fs3 : V3.there V2.heap.size 0 10 := by rw [← hV3]; exact there_new V2 _ _
          have ls3 : V2.heap.size < V3.heap.size := by rw [← hV3]; simp
          rw [hV3]
          clear hV3
          have fq3 := there_below fq2 k3 lq2
          have lq3 := Nat.lt_of_lt_of_le lq2 k3.size
          have hn3 : q ≠ V2.heap.size := Nat.ne_of_lt lq2
          have r13 := range_below r12 k3 lb2
          have r23 := range_below r22 k3 lb2
          have lb3 := Nat.lt_of_lt_of_le lb2 k3.size
          have HB3 := Lib.hid (HB2.out.trans (k3.mono HB2.out.size))
          have ws : wr.heap.size ≤ V2.heap.size := HB2.out.size
          have xs : B < V2.heap.size := lb2
          refine hK.out _ _ ?_ (fun hHeld => ?_)
          · exact ⟨r13, r23⟩
          clear hK K k3 r12 r22
          (try simp only [Act.put, List.setIfInBounds_toArray, List.set_cons_zero, List.set_cons_succ, List.getElem_toArray, List.getElem_cons_succ, List.getElem_cons_zero])
          generalize V2.heap.size = s at *
          refine wpAnyH_ready (rs := [12]) (by kernel_rfl) (by simp) ?_
          refine AllReadyH.cons rfl (fun K hK => ?_) (AllReadyH.nil)
          rw [if_pos (by rfl)]
          refine wp_store_mid 56 (.tmp 5) (.tmp 18) rfl s 0 e.st.toArray rfl rfl fs3 rst_info e.st_one ?_
          obtain ⟨V4, hV4⟩ : ∃ V, V3.setCells s 0 e.st.toArray.toList = V := ⟨_, rfl⟩
          have HB4 : Hid (Below wr.heap.size wr V4) := Lib.hid (by rw [← hV4]; exact below_setCells _ _ ws _ _ _ _ HB3.out)
          have fs4 : V4.rangeAt s 0 e.st := by rw [← hV4]; exact World.rangeAt_setCells_same V3 s 0 e.st fs3
          have ls4 : s < V4.heap.size := by rw [← hV4, setCells_size]; exact ls3
          have lb4 : B < V4.heap.size := by rw [← hV4, setCells_size]; exact lb3
          have r14 : V4.rangeAt B (O + k * 18 + 1) e.st := by rw [← hV4]; exact World.rangeAt_setCells_apart r13 s 0 _ (.inl (Nat.ne_of_lt xs))
          have r24 : V4.rangeAt B (O + k * 18 + 11) e.an_ := by rw [← hV4]; exact World.rangeAt_setCells_apart r23 s 0 _ (.inl (Nat.ne_of_lt xs))
          have fq4 : V4.there q 0 7 := by rw [← hV4]; exact World.there_setCells fq3 s 0 _
          have lq4 : q < V4.heap.size := by rw [← hV4, setCells_size]; exact lq3
          rw [hV4]
          refine hK.out _ _ ?_ (fun hHeld => ?_)
          · exact ⟨r14, r24⟩
          clear hK K hV4 r13 r23
          (try simp only [Act.put, List.setIfInBounds_toArray, List.set_cons_zero, List.set_cons_succ, List.getElem_toArray, List.getElem_cons_succ, List.getElem_cons_zero])
          refine wpAnyH_ready (rs := [13]) (by kernel_rfl) (by simp) ?_
          refine AllReadyH.cons rfl (fun K hK => ?_) (AllReadyH.nil)
          rw [if_pos (by rfl)]
          refine wp_store_mid 58 (.tmp 6) (.tmp 23) rfl q 0 e.an_.toArray rfl rfl fq4 ran_info e.an_one ?_
          obtain ⟨V5, hV5⟩ : ∃ V, V4.setCells q 0 e.an_.toArray.toList = V := ⟨_, rfl⟩
          have HB5 : Hid (Below wr.heap.size wr V5) := Lib.hid (by rw [← hV5]; exact below_setCells _ _ wq _ _ _ _ HB4.out)
          have fq5 : V5.rangeAt q 0 e.an_ := by rw [← hV5]; exact World.rangeAt_setCells_same V4 q 0 e.an_ fq4
          have lq5 : q < V5.heap.size := by rw [← hV5, setCells_size]; exact lq4
          have lb5 : B < V5.heap.size := by rw [← hV5, setCells_size]; exact lb4
          have r15 : V5.rangeAt B (O + k * 18 + 1) e.st := by rw [← hV5]; exact World.rangeAt_setCells_apart r14 q 0 _ (.inl (Nat.ne_of_lt xq))
          have r25 : V5.rangeAt B (O + k * 18 + 11) e.an_ := by rw [← hV5]; exact World.rangeAt_setCells_apart r24 q 0 _ (.inl (Nat.ne_of_lt xq))
          have fs5 : V5.rangeAt s 0 e.st := by rw [← hV5]; exact World.rangeAt_setCells_apart fs4 q 0 _ (.inl (by omega))
          have ls5 : s < V5.heap.size := by rw [← hV5, setCells_size]; exact ls4
          rw [hV5]
          refine hK.out _ _ ?_ (fun hHeld => ?_)
          · exact ⟨r15, r25⟩
          clear hK K hV5 r14 r24
          (try simp only [Act.put, List.setIfInBounds_toArray, List.set_cons_zero, List.set_cons_succ, List.getElem_toArray, List.getElem_cons_succ, List.getElem_cons_zero])
          refine wpAnyH_done (by kernel_rfl) ?_ _
          go_wp2_with fail
          go_meet
          exact ⟨s, q, rfl, rfl, fs5, fq5, ls5, lq5, ws, wq, HB5.out⟩
      case rest =>
      obtain ⟨s, q, rfl, rfl, hs, hq, ls, lq, hws, hwq, hb⟩ := hcut
      generalize wc = wz at *
      have HBC := Lib.hid hb
      have hvl := HVL.out
      replace hwho := (hb.cell (p := ⟨B, O + k * 18, none⟩) hBw).trans hwho
      replace hBw := Nat.lt_of_lt_of_le hBw hb.size
      clear hb hst han hws hwq
      by_cases hq5 : (e.kd = 1 ∨ e.kd = 2) ∧ (e.er = 0 ∨ e.er = 9)
      · have hcs : (e.kd = 1 ∧ e.er = 0) ∨ (e.kd = 1 ∧ e.er = 9) ∨ (e.kd = 2 ∧ e.er = 0) ∨ (e.kd = 2 ∧ e.er = 9) := by omega
        clear hq5
        rcases hcs with ⟨hkd, her⟩ | ⟨hkd, her⟩ | ⟨hkd, her⟩ | ⟨hkd, her⟩
        · as_aux_lemma =>
          have rs : wz.rangeAt s 0 [.int .i64 1, .int .i64 e.nd, .int .i64 e.n, .int .i64 e.m, .int .u8 e.by_, .int .i64 e.sm, .int .i64 e.sc, .string e.key, .string e.hi, .slice e.A (pv k).length e.vc] := by
            have := hs
            unfold Ev.st at this
            rwa [hkd, hvl] at this
          have rq : wz.rangeAt q 0 [.int .i64 0, .int .i64 e.an, .int .i64 e.tm, .int .i64 e.tc, .bool e.fd, .slice e.B e.bl e.bc, .slice e.P e.pl e.pc] := by
            have := hq
            unfold Ev.an_ at this
            rwa [her] at this
          have HKD := Lib.hid (And.intro hkd her)
          clear hkd her hs hq hvl
          have s0 : wz.cell? ⟨s, 0, none⟩ = some (.int .i64 1) := rs 0 _ rfl
          have q0 : wz.cell? ⟨q, 0, none⟩ = some (.int .i64 0) := rq 0 _ rfl
          go_upto_region 7 with fail
          refine wp_region_held_drew (S := fun w' => w'.cell? ⟨B, O + k * 18, none⟩ = some (.int .i64 e.who) ∧ w'.cell? ⟨s, 7, none⟩ = some (.string e.key) ∧ w'.cell? ⟨q, 0, none⟩ = some (.int .i64 0)) (by kernel_rfl) ?_ (fun hHeld => ?_)
          · exact ⟨hwho, rs 7 _ rfl, rq 0 _ rfl⟩
          have k1 : Below wz.heap.size wz wz.drew := (Below.refl _ _).drew
          obtain ⟨V1, hV1⟩ : ∃ V1, wz.drew = V1 := ⟨_, rfl⟩
          rw [hV1] at k1 hHeld ⊢
          clear hV1 s0 q0
          replace rs := range_below rs k1 ls
          replace rq := range_below rq k1 lq
          replace hwho := (k1.cell (p := ⟨B, O + k * 18, none⟩) hBw).trans hwho
          replace ls := Nat.lt_of_lt_of_le ls k1.size
          replace lq := Nat.lt_of_lt_of_le lq k1.size
          replace hBw := Nat.lt_of_lt_of_le hBw k1.size
          have HB1 := Lib.hid (HBC.out.trans (k1.mono HBC.out.size))
          clear k1
          refine tk9 0 ?_
          refine tk9 1 ?_
          refine tk9 2 ?_
          refine tk9 3 ?_
          refine tk9 4 ?_
          refine tk9 5 ?_
          refine tk9 6 ?_
          refine tk9 7 ?_
          refine tk9 8 ?_
          refine tk9 9 ?_
          refine tk9 10 (hy := build_y (by rfl) 38 _ rfl _ (by rw [Array.toList_map]; rfl) _ (bldW e.who e.key false)) ?_
          refine wpAnyH_ready (rs := [11]) (by kernel_rfl) (by simp) ?_
          refine AllReadyH.cons rfl (fun K hK => ?_) (AllReadyH.nil)
          go_simp
          (try dsimp only)
          obtain ⟨V2, hV2⟩ : ∃ V, V1.alloc (.cells #[.int .i64 0, .string ⟨#[]⟩, .int .i64 0, .int .i64 0, .int .i64 0, .slice none 0 0, .bool false, .int .i64 0, .bool false] 38) = V := ⟨_, rfl⟩
          have k2 : Below V1.heap.size V1 V2 := by rw [← hV2]; exact (Below.refl _ _).alloc (Nat.le_refl _) _
          have ty : V2.there V1.heap.size 0 9 := by rw [← hV2]; exact there_new V1 _ _
          have ly : V1.heap.size < V2.heap.size := by rw [← hV2]; simp
          rw [hV2]
          clear hV2
          have nsy : s < V1.heap.size := ls
          have nqy : q < V1.heap.size := lq
          have nBy : B < V1.heap.size := hBw
          have wy : wr.heap.size ≤ V1.heap.size := HB1.out.size
          replace rs := range_below rs k2 ls
          replace rq := range_below rq k2 lq
          replace hwho := (k2.cell (p := ⟨B, O + k * 18, none⟩) hBw).trans hwho
          replace ls := Nat.lt_of_lt_of_le ls k2.size
          replace lq := Nat.lt_of_lt_of_le lq k2.size
          replace hBw := Nat.lt_of_lt_of_le hBw k2.size
          have HB2 := Lib.hid (HB1.out.trans (k2.mono HB1.out.size))
          refine hK.out _ _ ?_ (fun hHeld => ?_)
          · exact ⟨hwho, rs 7 _ rfl, rq 0 _ rfl⟩
          clear hK K k2 HB1
          (try simp only [Act.put, List.setIfInBounds_toArray, List.set_cons_zero, List.set_cons_succ, List.getElem_toArray, List.getElem_cons_succ, List.getElem_cons_zero])
          generalize V1.heap.size = y at *
          refine wpAnyH_ready (rs := [12]) (by kernel_rfl) (by simp) ?_
          refine AllReadyH.cons rfl (fun K hK => ?_) (AllReadyH.nil)
          rw [if_pos (by rfl)]
          refine wp_store_mid 38 (.tmp 7) (.tmp 52) rfl y 0 #[.int .i64 e.who, .string e.key, .int .i64 0, .int .i64 0, .int .i64 0, .slice none 0 0, .bool false, .int .i64 0, .bool false] rfl rfl ty rw_size (by simp [Value.oneCell']) ?_
          obtain ⟨V3, hV3⟩ : ∃ V, V2.setCells y 0 [.int .i64 e.who, .string e.key, .int .i64 0, .int .i64 0, .int .i64 0, .slice none 0 0, .bool false, .int .i64 0, .bool false] = V := ⟨_, rfl⟩
          have HB3 : Hid (Below wr.heap.size wr V3) := Lib.hid (by rw [← hV3]; exact below_setCells _ _ wy _ _ _ _ HB2.out)
          have ry : V3.rangeAt y 0 [.int .i64 e.who, .string e.key, .int .i64 0, .int .i64 0, .int .i64 0, .slice none 0 0, .bool false, .int .i64 0, .bool false] := by rw [← hV3]; exact World.rangeAt_setCells_same V2 y 0 _ ty
          replace ty : V3.there y 0 9 := by rw [← hV3]; exact World.there_setCells ty y 0 _
          replace rs : V3.rangeAt s 0 [.int .i64 1, .int .i64 e.nd, .int .i64 e.n, .int .i64 e.m, .int .u8 e.by_, .int .i64 e.sm, .int .i64 e.sc, .string e.key, .string e.hi, .slice e.A (pv k).length e.vc] := by rw [← hV3]; exact World.rangeAt_setCells_apart rs y 0 _ (.inl (Nat.ne_of_lt nsy))
          replace rq : V3.rangeAt q 0 [.int .i64 0, .int .i64 e.an, .int .i64 e.tm, .int .i64 e.tc, .bool e.fd, .slice e.B e.bl e.bc, .slice e.P e.pl e.pc] := by rw [← hV3]; exact World.rangeAt_setCells_apart rq y 0 _ (.inl (Nat.ne_of_lt nqy))
          replace ls : s < V3.heap.size := by rw [← hV3, setCells_size]; exact ls
          replace lq : q < V3.heap.size := by rw [← hV3, setCells_size]; exact lq
          replace ly : y < V3.heap.size := by rw [← hV3, setCells_size]; exact ly
          have hwho3 : V3.rangeAt B (O + k * 18) [.int .i64 e.who] := by
            rw [← hV3]
            refine World.rangeAt_setCells_apart (fun j u hu => ?_) y 0 _ (.inl (Nat.ne_of_lt nBy))
            rcases j with _ | j
            · cases hu; exact hwho
            · simp at hu
          rw [show V2.setCells y 0 _ = V3 from hV3]
          clear hV3 HB2
          refine hK.out _ _ ?_ (fun hHeld => ?_)
          · exact ⟨hwho3 0 _ rfl, rs 7 _ rfl, rq 0 _ rfl⟩
          clear hK K hwho hwho3 hBw nBy hHeld
          (try simp only [Act.put, List.setIfInBounds_toArray, List.set_cons_zero, List.set_cons_succ, List.getElem_toArray, List.getElem_cons_succ, List.getElem_cons_zero])
          refine wpAnyH_done (by kernel_rfl) ?_ _
          have s0 : V3.cell? ⟨s, 0, none⟩ = some (.int .i64 1) := rs 0 _ rfl
          have s1 : V3.cell? ⟨s, 1, none⟩ = some (.int .i64 e.nd) := rs 1 _ rfl
          go_upto_region 8 with fail
          refine wp_region_lit ?_
          refine wpList_plain rfl (fun KK hKK => ?_)
          go_simp
          refine hKK _ _ ?_
          refine wpList_plain rfl (fun KK hKK => ?_)
          go_simp
          refine hKK _ _ ?_
          refine wpList_plain rfl (fun KK hKK => ?_)
          go_simp
          refine hKK _ _ ?_
          refine wpList_plain rfl (fun KK hKK => ?_)
          go_simp
          refine hKK _ _ ?_
          refine wpList_plain rfl (fun KK hKK => ?_)
          go_simp
          refine hKK _ _ ?_
          refine wpList_plain rfl (fun KK hKK => ?_)
          go_simp
          refine hKK _ _ ?_
          refine wpList_plain rfl (fun KK hKK => ?_)
          go_simp
          refine hKK _ _ ?_
          refine wpList_store_mid rfl 35 (.tmp 59) (.tmp 58) rfl y 2 #[.int .i64 0, .int .i64 0, .int .i64 e.nd, .slice none 0 0, .bool false, .int .i64 0] rfl rfl (fun j hj => by have := ty (2 + j) (by simp at hj; omega); rwa [Nat.zero_add] at this) ver_size (by simp [Value.oneCell']) ?_
          refine wpList_nil ?_
          clear s0 s1
          obtain ⟨V4, hV4⟩ : ∃ V, V3.setCells y 2 [.int .i64 0, .int .i64 0, .int .i64 e.nd, .slice none 0 0, .bool false, .int .i64 0] = V := ⟨_, rfl⟩
          have HB4 : Hid (Below wr.heap.size wr V4) := Lib.hid (by rw [← hV4]; exact below_setCells _ _ wy _ _ _ _ HB3.out)
          replace ry : V4.rangeAt y 0 [.int .i64 e.who, .string e.key, .int .i64 0, .int .i64 0, .int .i64 e.nd, .slice none 0 0, .bool false, .int .i64 0, .bool false] := by rw [← hV4]; exact blk_setCells ry ty [.int .i64 0, .int .i64 0, .int .i64 e.nd, .slice none 0 0, .bool false, .int .i64 0] (by simp)
          replace ty : V4.there y 0 9 := by rw [← hV4]; exact World.there_setCells ty y 2 _
          replace rs : V4.rangeAt s 0 [.int .i64 1, .int .i64 e.nd, .int .i64 e.n, .int .i64 e.m, .int .u8 e.by_, .int .i64 e.sm, .int .i64 e.sc, .string e.key, .string e.hi, .slice e.A (pv k).length e.vc] := by rw [← hV4]; exact World.rangeAt_setCells_apart rs y 2 _ (.inl (Nat.ne_of_lt nsy))
          replace rq : V4.rangeAt q 0 [.int .i64 0, .int .i64 e.an, .int .i64 e.tm, .int .i64 e.tc, .bool e.fd, .slice e.B e.bl e.bc, .slice e.P e.pl e.pc] := by rw [← hV4]; exact World.rangeAt_setCells_apart rq y 2 _ (.inl (Nat.ne_of_lt nqy))
          replace ls : s < V4.heap.size := by rw [← hV4, setCells_size]; exact ls
          replace lq : q < V4.heap.size := by rw [← hV4, setCells_size]; exact lq
          replace ly : y < V4.heap.size := by rw [← hV4, setCells_size]; exact ly
          rw [show V3.setCells y 2 _ = V4 from hV4]
          clear hV4 HB3
          have y8 : V4.cell? ⟨y, 8, none⟩ = some (.bool false) := ry 8 _ rfl
          have q2 : V4.cell? ⟨q, 2, none⟩ = some (.int .i64 e.tm) := rq 2 _ rfl
          have q3 : V4.cell? ⟨q, 3, none⟩ = some (.int .i64 e.tc) := rq 3 _ rfl
          go_upto_region 10 with fail
          refine wp_region_lit ?_
          refine wpList_plain rfl (fun KK hKK => ?_)
          go_simp
          refine hKK _ _ ?_
          refine wpList_plain rfl (fun KK hKK => ?_)
          go_simp
          refine hKK _ _ ?_
          refine wpList_plain rfl (fun KK hKK => ?_)
          go_simp
          refine hKK _ _ ?_
          refine wpList_plain rfl (fun KK hKK => ?_)
          go_simp
          refine hKK _ _ ?_
          refine wpList_store_mid rfl 32 (.tmp 66) (.tmp 64) rfl y 2 #[.int .i64 e.tm, .int .i64 e.tc] rfl rfl (fun j hj => by have := ty (2 + j) (by simp at hj; omega); rwa [Nat.zero_add] at this) stamp_size (by simp [Value.oneCell']) ?_
          refine wpList_nil ?_
          clear q2 q3 y8
          obtain ⟨V5, hV5⟩ : ∃ V, V4.setCells y 2 [.int .i64 e.tm, .int .i64 e.tc] = V := ⟨_, rfl⟩
          have HB5 : Hid (Below wr.heap.size wr V5) := Lib.hid (by rw [← hV5]; exact below_setCells _ _ wy _ _ _ _ HB4.out)
          replace ry : V5.rangeAt y 0 [.int .i64 e.who, .string e.key, .int .i64 e.tm, .int .i64 e.tc, .int .i64 e.nd, .slice none 0 0, .bool false, .int .i64 0, .bool false] := by rw [← hV5]; exact blk_setCells ry ty [.int .i64 e.tm, .int .i64 e.tc] (by simp)
          replace ty : V5.there y 0 9 := by rw [← hV5]; exact World.there_setCells ty y 2 _
          replace rs : V5.rangeAt s 0 [.int .i64 1, .int .i64 e.nd, .int .i64 e.n, .int .i64 e.m, .int .u8 e.by_, .int .i64 e.sm, .int .i64 e.sc, .string e.key, .string e.hi, .slice e.A (pv k).length e.vc] := by rw [← hV5]; exact World.rangeAt_setCells_apart rs y 2 _ (.inl (Nat.ne_of_lt nsy))
          replace rq : V5.rangeAt q 0 [.int .i64 0, .int .i64 e.an, .int .i64 e.tm, .int .i64 e.tc, .bool e.fd, .slice e.B e.bl e.bc, .slice e.P e.pl e.pc] := by rw [← hV5]; exact World.rangeAt_setCells_apart rq y 2 _ (.inl (Nat.ne_of_lt nqy))
          replace ls : s < V5.heap.size := by rw [← hV5, setCells_size]; exact ls
          replace lq : q < V5.heap.size := by rw [← hV5, setCells_size]; exact lq
          replace ly : y < V5.heap.size := by rw [← hV5, setCells_size]; exact ly
          rw [show V4.setCells y 2 _ = V5 from hV5]
          clear hV5 HB4
          have s0 : V5.cell? ⟨s, 0, none⟩ = some (.int .i64 1) := rs 0 _ rfl
          have s9 : V5.cell? ⟨s, 9, none⟩ = some (.slice e.A (pv k).length e.vc) := rs 9 _ rfl
          have y5 : V5.cell? ⟨y, 5, none⟩ = some (.slice none 0 0) := ry 5 _ rfl
          have f5 := (ty 5 (by omega)).2
          rw [Nat.zero_add] at f5
          go_upto_region 12 with fail
          clear s0
          go_cut [7] from 70 to 75 (fun p7 wx => p7 = .pointer (some ⟨y, 0, none⟩) ∧ ∃ A2 c2, wx.rangeAt y 0 [.int .i64 e.who, .string e.key, .int .i64 e.tm, .int .i64 e.tc, .int .i64 e.nd, .slice A2 (pv k).length c2, .bool false, .int .i64 0, .bool false] ∧ wx.there y 0 9 ∧ wx.rangeAt s 0 [.int .i64 1, .int .i64 e.nd, .int .i64 e.n, .int .i64 e.m, .int .u8 e.by_, .int .i64 e.sm, .int .i64 e.sc, .string e.key, .string e.hi, .slice e.A (pv k).length e.vc] ∧ s < wx.heap.size ∧ y < wx.heap.size ∧ Below wr.heap.size wr wx ∧ ByL wx A2 (pv k) ∧ (A2 = none → (pv k).length = 0) ∧ ∀ ad, A2 = some ad → wr.heap.size ≤ ad.block ∧ ad.block < wx.heap.size ∧ ad.block ≠ y)
          case first =>
            have HPB5 := Lib.hid ((HPB.out.below (HB.out.trans (HB5.out.mono HB.out.size))).alloc (.cells #[] 5))
            have kA : Below V5.heap.size V5 (V5.alloc (.cells #[] 5)) := (Below.refl _ _).alloc (Nat.le_refl _) _
            have hmade := World.ownsRow_made (base := V5.heap.size) (e := 5) (size := 1) V5 #[] 0 (Nat.le_refl _) (Nat.zero_le _) rfl
            by_cases hp0 : 0 < (pv k).length
            · as_aux_lemma =>
              obtain ⟨ad, had⟩ : ∃ ad, e.A = some ad := by
                cases hA : e.A with
                | none => have := HPN.out hA; omega
                | some ad => exact ⟨ad, rfl⟩
              have HPB6 := HPB5.out
              rw [had] at HPB6 s9
              have hsrc := HPB6.cells
              clear HPB6 HPB5 had
              refine wp_region_lit ?_
              refine wpList_plain rfl (fun KK hKK => ?_)
              go_simp
              refine hKK _ _ ?_
              refine wpList_plain rfl (fun KK hKK => ?_)
              go_simp
              refine hKK _ _ ?_
              refine wpList_plain rfl (fun KK hKK => ?_)
              go_simp
              refine hKK _ _ ?_
              refine wpList_append_lies _ rfl (.tmp 70) (.tmp 72) _ rfl V5.heap.size 5 i8 _ 1 1 Try.underlying33 hi8 hy0 hy1 hy2 rfl (by decide) (.slice (some ⟨V5.heap.size, 0, none⟩) 0 0) 0 [] rfl hmade ad (pv k).length e.vc (bC (pv k)) rfl (by rw [bC_len]; omega) hsrc (bC_one _) hp0 (by unfold maxLen; have := HPL.out; omega) (by have := HPL.out; omega) (by simp) _ rfl ?_
              intro g1 cap1 VA hown0 hg1 hat1 hlt1
              have hown1 : VA.ownsRow V5.heap.size 5 1 (.slice (some ⟨g1, 0, none⟩) (pv k).length cap1) (pv k).length (bC (pv k)) := (by simpa using hown0)
              have kB : Below V5.heap.size V5 VA := kA.grown hg1 (by simp) (fun k hk => by simp [Value.ownBlock] at hk; omega)
              obtain ⟨A2, c2, heq, _, hby2, hn2, ha2⟩ := own8_shape hown1
              injection heq with e1 _ e2
              subst e1 e2
              have z0 : ((0 : Nat) + (pv k).length) = (pv k).length := Nat.zero_add _
              rw [z0]
              clear hown0 hown1 hg1 hat1 hlt1 hmade hsrc kA s9 z0
              have HY := Lib.hid (And.intro hby2 (And.intro hn2 ha2))
              clear hby2 hn2 ha2
              have rsA := range_below rs kB ls
              have ryA := range_below ry kB ly
              have tyA := there_below ty kB ly
              have y5A : VA.cell? ⟨y, 5, none⟩ = some (.slice none 0 0) := ryA 5 _ rfl
              have f5A : VA.frozen? ⟨y, 5, none⟩ = false := (kB.frozen (p := ⟨y, 5, none⟩) ly).trans f5
              have lsA := Nat.lt_of_lt_of_le ls kB.size
              have lyA := Nat.lt_of_lt_of_le ly kB.size
              have HBA := Lib.hid (HB5.out.trans (kB.mono HB5.out.size))
              have hzV : wr.heap.size ≤ V5.heap.size := HB5.out.size
              have nyV : y < V5.heap.size := ly
              clear kB ry rs rq ty y5 f5
              refine wpList_plain rfl (fun KK hKK => ?_)
              go_simp
              refine hKK _ _ ?_
              refine wpList_plain rfl (fun KK hKK => ?_)
              go_simp
              refine hKK _ _ ?_
              refine wpList_plain rfl (fun KK hKK => ?_)
              go_simp
              refine hKK _ _ ?_
              refine wpList_nil ?_
              obtain ⟨VX, hVX⟩ : ∃ VX, VA.setCells y 5 [.slice (some ⟨g1, 0, none⟩) (pv k).length cap1] = VX := ⟨_, rfl⟩
              rw [show VA.setCell ⟨y, 5, none⟩ (.slice (some ⟨g1, 0, none⟩) (pv k).length cap1) = VX from hVX]
              have HBX : Hid (Below wr.heap.size wr VX) := Lib.hid (by rw [← hVX]; exact below_setCells _ _ wy _ _ _ _ HBA.out)
              have ryX : VX.rangeAt y 0 [.int .i64 e.who, .string e.key, .int .i64 e.tm, .int .i64 e.tc, .int .i64 e.nd, .slice (some ⟨g1, 0, none⟩) (pv k).length cap1, .bool false, .int .i64 0, .bool false] := by rw [← hVX]; exact blk_setCells ryA tyA [.slice (some ⟨g1, 0, none⟩) (pv k).length cap1] (by simp)
              have tyX : VX.there y 0 9 := by rw [← hVX]; exact World.there_setCells tyA y 5 _
              have rsX : VX.rangeAt s 0 [.int .i64 1, .int .i64 e.nd, .int .i64 e.n, .int .i64 e.m, .int .u8 e.by_, .int .i64 e.sm, .int .i64 e.sc, .string e.key, .string e.hi, .slice e.A (pv k).length e.vc] := by rw [← hVX]; exact World.rangeAt_setCells_apart rsA y 5 _ (.inl (Nat.ne_of_lt nsy))
              have lsX : s < VX.heap.size := by rw [← hVX, setCells_size]; exact lsA
              have lyX : y < VX.heap.size := by rw [← hVX, setCells_size]; exact lyA
              have HYX : Hid (ByL VX (some ⟨g1, 0, none⟩) (pv k) ∧ (((some ⟨g1, 0, none⟩) : Option Addr) = none → (pv k).length = 0) ∧ ∀ ad, ((some ⟨g1, 0, none⟩) : Option Addr) = some ad → wr.heap.size ≤ ad.block ∧ ad.block < VX.heap.size ∧ ad.block ≠ y) := Lib.hid (by
                have hzX : VX.heap.size = VA.heap.size := by rw [← hVX, setCells_size]
                refine ⟨fun h0 => ?_, HY.out.2.1, fun ad ha => ⟨Nat.le_trans hzV (HY.out.2.2 ad ha).1, by rw [hzX]; exact (HY.out.2.2 ad ha).2, by have := (HY.out.2.2 ad ha).1; omega⟩⟩
                obtain ⟨B', O', hA', hB', hc'⟩ := HY.out.1 h0
                have hlo : V5.heap.size ≤ B' := (HY.out.2.2 _ hA').1
                refine ⟨B', O', hA', by rw [hzX]; exact hB', ?_⟩
                rw [← hVX]
                exact World.rangeAt_setCells_apart (b' := B') (o' := O') hc' y 5 _ (.inl (by omega)))
              clear hVX HY HBA ryA tyA rsA lsA lyA y5A f5A
              go_wp2_with fail
              go_meet
              exact ⟨rfl, _, _, ryX, tyX, rsX, lsX, lyX, HBX.out, HYX.out.1, HYX.out.2.1, HYX.out.2.2⟩
            · as_aux_lemma =>
              have hp1 : pv k = [] := List.length_eq_zero_iff.1 (by omega)
              obtain ⟨VA, hVA⟩ : ∃ VA, V5.alloc (.cells #[] 5) = VA := ⟨_, rfl⟩
              have kB : Below V5.heap.size V5 VA := by rw [← hVA]; exact kA
              have HY : Hid (ByL VA (some ⟨V5.heap.size, 0, none⟩) (pv k) ∧ ((some ⟨V5.heap.size, 0, none⟩ : Option Addr) = none → (pv k).length = 0) ∧ ∀ ad, (some ⟨V5.heap.size, 0, none⟩ : Option Addr) = some ad → V5.heap.size ≤ ad.block ∧ ad.block < VA.heap.size) := Lib.hid (by
                refine ⟨(by rw [hp1]; exact ByL.nil _ _), (fun h => by cases h), fun ad h => ?_⟩
                injection h with h
                subst h
                exact ⟨Nat.le_refl _, by rw [← hVA]; simp⟩)
              have hz0 : (pv k).length = 0 := by rw [hp1]; rfl
              rw [hz0] at s9
              have hld := empty_loads.1
              have hst := empty_loads.2
              have HVA := Lib.hid hVA
              clear hVA hmade HPB5 kA hp0
              obtain ⟨Ae, hAe⟩ : ∃ A, e.A = A := ⟨_, rfl⟩
              rw [hAe] at s9
              clear hAe
              rcases Ae with _ | ad
              · refine wp_region_lit ?_
                refine wpList_plain rfl (fun KK hKK => ?_)
                go_simp
                refine hKK _ _ ?_
                refine wpList_plain rfl (fun KK hKK => ?_)
                go_simp
                refine hKK _ _ ?_
                refine wpList_plain rfl (fun KK hKK => ?_)
                go_simp
                refine hKK _ _ ?_
                refine wpList_plain rfl (fun KK hKK => ?_)
                go_simp
                refine hKK _ _ ?_
                rw [HVA.out]
                clear HVA hld hst s9
                have rsA := range_below rs kB ls
                have ryA := range_below ry kB ly
                have tyA := there_below ty kB ly
                have y5A : VA.cell? ⟨y, 5, none⟩ = some (.slice none 0 0) := ryA 5 _ rfl
                have f5A : VA.frozen? ⟨y, 5, none⟩ = false := (kB.frozen (p := ⟨y, 5, none⟩) ly).trans f5
                have lsA := Nat.lt_of_lt_of_le ls kB.size
                have lyA := Nat.lt_of_lt_of_le ly kB.size
                have HBA := Lib.hid (HB5.out.trans (kB.mono HB5.out.size))
                have hzV : wr.heap.size ≤ V5.heap.size := HB5.out.size
                have nyV : y < V5.heap.size := ly
                clear kB ry rs rq ty y5 f5
                refine wpList_plain rfl (fun KK hKK => ?_)
                go_simp
                refine hKK _ _ ?_
                refine wpList_plain rfl (fun KK hKK => ?_)
                go_simp
                refine hKK _ _ ?_
                refine wpList_plain rfl (fun KK hKK => ?_)
                go_simp
                refine hKK _ _ ?_
                refine wpList_nil ?_
                rw [show (Value.slice (some ⟨V5.heap.size, 0, none⟩) 0 0) = .slice (some ⟨V5.heap.size, 0, none⟩) (pv k).length 0 from by rw [hz0]]
                obtain ⟨VX, hVX⟩ : ∃ VX, VA.setCells y 5 [.slice (some ⟨V5.heap.size, 0, none⟩) (pv k).length 0] = VX := ⟨_, rfl⟩
                rw [show VA.setCell ⟨y, 5, none⟩ (.slice (some ⟨V5.heap.size, 0, none⟩) (pv k).length 0) = VX from hVX]
                have HBX : Hid (Below wr.heap.size wr VX) := Lib.hid (by rw [← hVX]; exact below_setCells _ _ wy _ _ _ _ HBA.out)
                have ryX : VX.rangeAt y 0 [.int .i64 e.who, .string e.key, .int .i64 e.tm, .int .i64 e.tc, .int .i64 e.nd, .slice (some ⟨V5.heap.size, 0, none⟩) (pv k).length 0, .bool false, .int .i64 0, .bool false] := by rw [← hVX]; exact blk_setCells ryA tyA [.slice (some ⟨V5.heap.size, 0, none⟩) (pv k).length 0] (by simp)
                have tyX : VX.there y 0 9 := by rw [← hVX]; exact World.there_setCells tyA y 5 _
                have rsX : VX.rangeAt s 0 [.int .i64 1, .int .i64 e.nd, .int .i64 e.n, .int .i64 e.m, .int .u8 e.by_, .int .i64 e.sm, .int .i64 e.sc, .string e.key, .string e.hi, .slice e.A (pv k).length e.vc] := by rw [← hVX]; exact World.rangeAt_setCells_apart rsA y 5 _ (.inl (Nat.ne_of_lt nsy))
                have lsX : s < VX.heap.size := by rw [← hVX, setCells_size]; exact lsA
                have lyX : y < VX.heap.size := by rw [← hVX, setCells_size]; exact lyA
                have HYX : Hid (ByL VX (some ⟨V5.heap.size, 0, none⟩) (pv k) ∧ (((some ⟨V5.heap.size, 0, none⟩) : Option Addr) = none → (pv k).length = 0) ∧ ∀ ad, ((some ⟨V5.heap.size, 0, none⟩) : Option Addr) = some ad → wr.heap.size ≤ ad.block ∧ ad.block < VX.heap.size ∧ ad.block ≠ y) := Lib.hid (by
                  have hzX : VX.heap.size = VA.heap.size := by rw [← hVX, setCells_size]
                  refine ⟨fun h0 => ?_, HY.out.2.1, fun ad ha => ⟨Nat.le_trans hzV (HY.out.2.2 ad ha).1, by rw [hzX]; exact (HY.out.2.2 ad ha).2, by have := (HY.out.2.2 ad ha).1; omega⟩⟩
                  obtain ⟨B', O', hA', hB', hc'⟩ := HY.out.1 h0
                  have hlo : V5.heap.size ≤ B' := (HY.out.2.2 _ hA').1
                  refine ⟨B', O', hA', by rw [hzX]; exact hB', ?_⟩
                  rw [← hVX]
                  exact World.rangeAt_setCells_apart (b' := B') (o' := O') hc' y 5 _ (.inl (by omega)))
                clear hVX HY HBA ryA tyA rsA lsA lyA y5A f5A
                go_wp2_with fail
                go_meet
                exact ⟨rfl, _, _, ryX, tyX, rsX, lsX, lyX, HBX.out, HYX.out.1, HYX.out.2.1, HYX.out.2.2⟩
              · refine wp_region_lit ?_
                refine wpList_plain rfl (fun KK hKK => ?_)
                go_simp
                refine hKK _ _ ?_
                refine wpList_plain rfl (fun KK hKK => ?_)
                go_simp
                refine hKK _ _ ?_
                refine wpList_plain rfl (fun KK hKK => ?_)
                go_simp
                refine hKK _ _ ?_
                refine wpList_plain rfl (fun KK hKK => ?_)
                go_simp
                refine hKK _ _ ?_
                rw [HVA.out]
                clear HVA hld hst s9
                have rsA := range_below rs kB ls
                have ryA := range_below ry kB ly
                have tyA := there_below ty kB ly
                have y5A : VA.cell? ⟨y, 5, none⟩ = some (.slice none 0 0) := ryA 5 _ rfl
                have f5A : VA.frozen? ⟨y, 5, none⟩ = false := (kB.frozen (p := ⟨y, 5, none⟩) ly).trans f5
                have lsA := Nat.lt_of_lt_of_le ls kB.size
                have lyA := Nat.lt_of_lt_of_le ly kB.size
                have HBA := Lib.hid (HB5.out.trans (kB.mono HB5.out.size))
                have hzV : wr.heap.size ≤ V5.heap.size := HB5.out.size
                have nyV : y < V5.heap.size := ly
                clear kB ry rs rq ty y5 f5
                refine wpList_plain rfl (fun KK hKK => ?_)
                go_simp
                refine hKK _ _ ?_
                refine wpList_plain rfl (fun KK hKK => ?_)
                go_simp
                refine hKK _ _ ?_
                refine wpList_plain rfl (fun KK hKK => ?_)
                go_simp
                refine hKK _ _ ?_
                refine wpList_nil ?_
                rw [show (Value.slice (some ⟨V5.heap.size, 0, none⟩) 0 0) = .slice (some ⟨V5.heap.size, 0, none⟩) (pv k).length 0 from by rw [hz0]]
                obtain ⟨VX, hVX⟩ : ∃ VX, VA.setCells y 5 [.slice (some ⟨V5.heap.size, 0, none⟩) (pv k).length 0] = VX := ⟨_, rfl⟩
                rw [show VA.setCell ⟨y, 5, none⟩ (.slice (some ⟨V5.heap.size, 0, none⟩) (pv k).length 0) = VX from hVX]
                have HBX : Hid (Below wr.heap.size wr VX) := Lib.hid (by rw [← hVX]; exact below_setCells _ _ wy _ _ _ _ HBA.out)
                have ryX : VX.rangeAt y 0 [.int .i64 e.who, .string e.key, .int .i64 e.tm, .int .i64 e.tc, .int .i64 e.nd, .slice (some ⟨V5.heap.size, 0, none⟩) (pv k).length 0, .bool false, .int .i64 0, .bool false] := by rw [← hVX]; exact blk_setCells ryA tyA [.slice (some ⟨V5.heap.size, 0, none⟩) (pv k).length 0] (by simp)
                have tyX : VX.there y 0 9 := by rw [← hVX]; exact World.there_setCells tyA y 5 _
                have rsX : VX.rangeAt s 0 [.int .i64 1, .int .i64 e.nd, .int .i64 e.n, .int .i64 e.m, .int .u8 e.by_, .int .i64 e.sm, .int .i64 e.sc, .string e.key, .string e.hi, .slice e.A (pv k).length e.vc] := by rw [← hVX]; exact World.rangeAt_setCells_apart rsA y 5 _ (.inl (Nat.ne_of_lt nsy))
                have lsX : s < VX.heap.size := by rw [← hVX, setCells_size]; exact lsA
                have lyX : y < VX.heap.size := by rw [← hVX, setCells_size]; exact lyA
                have HYX : Hid (ByL VX (some ⟨V5.heap.size, 0, none⟩) (pv k) ∧ (((some ⟨V5.heap.size, 0, none⟩) : Option Addr) = none → (pv k).length = 0) ∧ ∀ ad, ((some ⟨V5.heap.size, 0, none⟩) : Option Addr) = some ad → wr.heap.size ≤ ad.block ∧ ad.block < VX.heap.size ∧ ad.block ≠ y) := Lib.hid (by
                  have hzX : VX.heap.size = VA.heap.size := by rw [← hVX, setCells_size]
                  refine ⟨fun h0 => ?_, HY.out.2.1, fun ad ha => ⟨Nat.le_trans hzV (HY.out.2.2 ad ha).1, by rw [hzX]; exact (HY.out.2.2 ad ha).2, by have := (HY.out.2.2 ad ha).1; omega⟩⟩
                  obtain ⟨B', O', hA', hB', hc'⟩ := HY.out.1 h0
                  have hlo : V5.heap.size ≤ B' := (HY.out.2.2 _ hA').1
                  refine ⟨B', O', hA', by rw [hzX]; exact hB', ?_⟩
                  rw [← hVX]
                  exact World.rangeAt_setCells_apart (b' := B') (o' := O') hc' y 5 _ (.inl (by omega)))
                clear hVX HY HBA ryA tyA rsA lsA lyA y5A f5A
                go_wp2_with fail
                go_meet
                exact ⟨rfl, _, _, ryX, tyX, rsX, lsX, lyX, HBX.out, HYX.out.1, HYX.out.2.1, HYX.out.2.2⟩
          case rest =>
          obtain ⟨rfl, A2, c2, ry', ty', rs', ls', ly', hb', hby, hn2, hal⟩ := hcut
          clear rs rq ry ty ls lq ly s9 y5 f5 HB5 nqy
          generalize wc = V6 at *
          have HB6 := Lib.hid hb'
          have HBY := Lib.hid (And.intro hby (And.intro hal hn2))
          clear hb' hby hn2 hal
          have s2 : V6.cell? ⟨s, 2, none⟩ = some (.int .i64 e.n) := rs' 2 _ rfl
          have y7 : V6.cell? ⟨y, 7, none⟩ = some (.int .i64 0) := ry' 7 _ rfl
          have f7 := (ty' 7 (by omega)).2
          rw [Nat.zero_add] at f7
          go_upto_region 13 with fail
          refine wp_region_lit ?_
          refine wpList_plain rfl (fun KK hKK => ?_)
          go_simp
          refine hKK _ _ ?_
          refine wpList_plain rfl (fun KK hKK => ?_)
          go_simp
          refine hKK _ _ ?_
          refine wpList_plain rfl (fun KK hKK => ?_)
          go_simp
          refine hKK _ _ ?_
          refine wpList_plain rfl (fun KK hKK => ?_)
          go_simp
          refine hKK _ _ ?_
          refine wpList_plain rfl (fun KK hKK => ?_)
          go_simp
          refine hKK _ _ ?_
          refine wpList_nil ?_
          obtain ⟨V7, hV7⟩ : ∃ V, V6.setCells y 7 [.int .i64 e.n] = V := ⟨_, rfl⟩
          rw [show V6.setCell ⟨y, 7, none⟩ (.int .i64 e.n) = V7 from hV7]
          have HB7 : Hid (Below wr.heap.size wr V7) := Lib.hid (by rw [← hV7]; exact below_setCells _ _ wy _ _ _ _ HB6.out)
          have ry : V7.rangeAt y 0 [.int .i64 e.who, .string e.key, .int .i64 e.tm, .int .i64 e.tc, .int .i64 e.nd, .slice A2 (pv k).length c2, .bool false, .int .i64 e.n, .bool false] := by rw [← hV7]; exact blk_setCells ry' ty' [.int .i64 e.n] (by simp)
          have ly : y < V7.heap.size := by rw [← hV7, setCells_size]; exact ly'
          have HBZ : Hid (ByL V7 A2 (pv k) ∧ (∀ ad, A2 = some ad → wr.heap.size ≤ ad.block ∧ ad.block < V7.heap.size) ∧ (A2 = none → (pv k).length = 0)) := Lib.hid (by
            have hzX : V7.heap.size = V6.heap.size := by rw [← hV7, setCells_size]
            refine ⟨fun h0 => ?_, fun ad ha => by rw [hzX]; exact ⟨(HBY.out.2.1 ad ha).1, (HBY.out.2.1 ad ha).2.1⟩, HBY.out.2.2⟩
            obtain ⟨B', O', hA', hB', hc'⟩ := HBY.out.1 h0
            have hny := (HBY.out.2.1 _ hA').2.2
            refine ⟨B', O', hA', by rw [hzX]; exact hB', ?_⟩
            rw [← hV7]
            exact World.rangeAt_setCells_apart (b' := B') (o' := O') hc' y 7 _ (.inl hny))
          clear hV7 ry' ty' rs' ls' ly' HB6 HBY s2 y7 f7 nsy
          obtain ⟨C, hC⟩ : ∃ C : List Value, C = (Wq.mk ⟨e.who, e.key, e.tm, e.tc, e.nd, (pv k), false, e.n, false⟩ A2 c2).cs := ⟨_, rfl⟩
          have hC9 : C.length = 9 := by rw [hC]; rfl
          have hrg4 : V7.rangeAt y 0 C := by
            rw [hC]
            skip
            exact ry
          have hC1 : ∀ u ∈ C, u.oneCell' = true := by rw [hC]; simp [Wq.cs, Value.oneCell']
          have HNEWS : Hid _ := Lib.hid (World.news_of_block (cs := C.toArray) (t := 38) (fr := (0, 0)) (heap_alloc_new V7 (.cells C.toArray 38)))
          have HBV : Hid (Below wr.heap.size wr V7) := HB7
          have HW4 := Lib.hid (HWS.out.below HBV.out)
          have hrow := World.ownsRow.alloc HW4.out.row (.cells C.toArray 38)
          have kA : Below V7.heap.size V7 (V7.alloc (.cells C.toArray 38)) := (Below.refl _ _).alloc (Nat.le_refl _) _
          have hw4 : w.heap.size ≤ V7.heap.size := Nat.le_trans HB.out.size HBV.out.size
          have HKA := Lib.hid kA
          have HCC := Lib.hid hC
          clear kA  ry hC
          go_upto_region 14 with fail
          refine wp_region_lit ?_
          refine wpList_plain rfl (fun KK hKK => ?_)
          go_simp
          refine hKK _ _ ?_
          refine wpList_load_mid rfl 38 (.tmp 7) rfl y 0 rfl C _ hrg4 Try.underlying38 rfl (by rw [hC9]; kernel_rfl) ?_
          refine wpList_buildSlice rfl 26 38 1 _ rfl C.toArray i0 _ Try.underlying26 hi0 hz0 (by rw [hz1]; omega) (by rw [hz1]; omega) (by rw [Array.toList_map]; exact fill9 i0 hz1 (.agg #[.int .i64 0, .string ⟨#[]⟩, .int .i64 0, .int .i64 0, .int .i64 0, .slice none 0 0, .bool false, .int .i64 0, .bool false]) C hC9) ?_
          refine wpList_append_lies _ rfl (.tmp 80) (.tmp 82) _ rfl w.heap.size 38 i0 _ 9 96 Try.underlying26 hi0 hz0 hz1 hz2 rfl (by decide) (.slice Av L'.length cv) L'.length (rowQ L') rfl hrow ⟨V7.heap.size, 0, none⟩ 1 1 C rfl (by rw [hC9]) HNEWS.out hC1 (by omega) (by unfold maxLen; omega) (by omega) (by simp; omega) _ rfl ?_
          intro g2 cap2 W5 hown2 hg2 hat2 hlt2
          refine wpList_plain rfl (fun KK hKK => ?_)
          go_simp
          refine hKK _ _ ?_
          refine wpList_nil ?_
          rw [HCC.out] at hown2
          have hlw : ∀ j, (Value.slice Av L'.length cv).ownBlock = some j → w.heap.size ≤ j ∧ j < wr.heap.size := fun j hj => World.ownsRow.lt HWS.out.row j hj
          have HAPP := Lib.hid (Wr5.app (x := Wq.mk ⟨e.who, e.key, e.tm, e.tc, e.nd, (pv k), false, e.n, false⟩ A2 c2) (HW4.out.below HKA.out) (HBZ.out.1.below HKA.out) HBZ.out.2.2 (fun ad ha => ⟨Nat.le_trans HB.out.size (HBZ.out.2.1 ad ha).1, Nat.lt_of_lt_of_le (HBZ.out.2.1 ad ha).2 HKA.out.size, fun q => by have := (hlw _ q).2; have := (HBZ.out.2.1 ad ha).1; omega⟩) hg2 hat2 hown2)
          have HBF := Lib.hid (((HB.out.trans (HBV.out.mono HB.out.size)).trans (HKA.out.mono hw4)).grown hg2 (by simp; omega) (fun j hj => (hlw j hj).1))
          have HMP : Hid ((L' ++ [Wq.mk ⟨e.who, e.key, e.tm, e.tc, e.nd, (pv k), false, e.n, false⟩ A2 c2]).map Wq.m = wsN L pv (k + 1)) := Lib.hid (by rw [List.map_append, HMAP.out, wsN_step HE.out]; simp [wOf, HKD.out.1, HKD.out.2])
          clear hown2 hg2 hat2 hlt2 hrow HKA HNEWS hlw hrg4 hC1 hC9 HCC
          go_wp2_with fail
          go_roundw
          case rel => exact ⟨k + 1, L' ++ [Wq.mk ⟨e.who, e.key, e.tm, e.tc, e.nd, (pv k), false, e.n, false⟩ A2 c2], by have := H1.out; omega, by simp, by simpa using HAPP.out, HMP.out, by simp; omega, HBF.out⟩
          all_goals ((try simp only [intOf]); have := H1.out; omega)
        · as_aux_lemma =>
          have rs : wz.rangeAt s 0 [.int .i64 1, .int .i64 e.nd, .int .i64 e.n, .int .i64 e.m, .int .u8 e.by_, .int .i64 e.sm, .int .i64 e.sc, .string e.key, .string e.hi, .slice e.A (pv k).length e.vc] := by
            have := hs
            unfold Ev.st at this
            rwa [hkd, hvl] at this
          have rq : wz.rangeAt q 0 [.int .i64 9, .int .i64 e.an, .int .i64 e.tm, .int .i64 e.tc, .bool e.fd, .slice e.B e.bl e.bc, .slice e.P e.pl e.pc] := by
            have := hq
            unfold Ev.an_ at this
            rwa [her] at this
          have HKD := Lib.hid (And.intro hkd her)
          clear hkd her hs hq hvl
          have s0 : wz.cell? ⟨s, 0, none⟩ = some (.int .i64 1) := rs 0 _ rfl
          have q0 : wz.cell? ⟨q, 0, none⟩ = some (.int .i64 9) := rq 0 _ rfl
          go_upto_region 7 with fail
          refine wp_region_held_drew (S := fun w' => w'.cell? ⟨B, O + k * 18, none⟩ = some (.int .i64 e.who) ∧ w'.cell? ⟨s, 7, none⟩ = some (.string e.key) ∧ w'.cell? ⟨q, 0, none⟩ = some (.int .i64 9)) (by kernel_rfl) ?_ (fun hHeld => ?_)
          · exact ⟨hwho, rs 7 _ rfl, rq 0 _ rfl⟩
          have k1 : Below wz.heap.size wz wz.drew := (Below.refl _ _).drew
          obtain ⟨V1, hV1⟩ : ∃ V1, wz.drew = V1 := ⟨_, rfl⟩
          rw [hV1] at k1 hHeld ⊢
          clear hV1 s0 q0
          replace rs := range_below rs k1 ls
          replace rq := range_below rq k1 lq
          replace hwho := (k1.cell (p := ⟨B, O + k * 18, none⟩) hBw).trans hwho
          replace ls := Nat.lt_of_lt_of_le ls k1.size
          replace lq := Nat.lt_of_lt_of_le lq k1.size
          replace hBw := Nat.lt_of_lt_of_le hBw k1.size
          have HB1 := Lib.hid (HBC.out.trans (k1.mono HBC.out.size))
          clear k1
          refine tk9 0 ?_
          refine tk9 1 ?_
          refine tk9 2 ?_
          refine tk9 3 ?_
          refine tk9 4 ?_
          refine tk9 5 ?_
          refine tk9 6 ?_
          refine tk9 7 ?_
          refine tk9 8 ?_
          refine tk9 9 ?_
          refine tk9 10 (hy := build_y (by rfl) 38 _ rfl _ (by rw [Array.toList_map]; rfl) _ (bldW e.who e.key true)) ?_
          refine wpAnyH_ready (rs := [11]) (by kernel_rfl) (by simp) ?_
          refine AllReadyH.cons rfl (fun K hK => ?_) (AllReadyH.nil)
          go_simp
          (try dsimp only)
          obtain ⟨V2, hV2⟩ : ∃ V, V1.alloc (.cells #[.int .i64 0, .string ⟨#[]⟩, .int .i64 0, .int .i64 0, .int .i64 0, .slice none 0 0, .bool false, .int .i64 0, .bool false] 38) = V := ⟨_, rfl⟩
          have k2 : Below V1.heap.size V1 V2 := by rw [← hV2]; exact (Below.refl _ _).alloc (Nat.le_refl _) _
          have ty : V2.there V1.heap.size 0 9 := by rw [← hV2]; exact there_new V1 _ _
          have ly : V1.heap.size < V2.heap.size := by rw [← hV2]; simp
          rw [hV2]
          clear hV2
          have nsy : s < V1.heap.size := ls
          have nqy : q < V1.heap.size := lq
          have nBy : B < V1.heap.size := hBw
          have wy : wr.heap.size ≤ V1.heap.size := HB1.out.size
          replace rs := range_below rs k2 ls
          replace rq := range_below rq k2 lq
          replace hwho := (k2.cell (p := ⟨B, O + k * 18, none⟩) hBw).trans hwho
          replace ls := Nat.lt_of_lt_of_le ls k2.size
          replace lq := Nat.lt_of_lt_of_le lq k2.size
          replace hBw := Nat.lt_of_lt_of_le hBw k2.size
          have HB2 := Lib.hid (HB1.out.trans (k2.mono HB1.out.size))
          refine hK.out _ _ ?_ (fun hHeld => ?_)
          · exact ⟨hwho, rs 7 _ rfl, rq 0 _ rfl⟩
          clear hK K k2 HB1
          (try simp only [Act.put, List.setIfInBounds_toArray, List.set_cons_zero, List.set_cons_succ, List.getElem_toArray, List.getElem_cons_succ, List.getElem_cons_zero])
          generalize V1.heap.size = y at *
          refine wpAnyH_ready (rs := [12]) (by kernel_rfl) (by simp) ?_
          refine AllReadyH.cons rfl (fun K hK => ?_) (AllReadyH.nil)
          rw [if_pos (by rfl)]
          refine wp_store_mid 38 (.tmp 7) (.tmp 52) rfl y 0 #[.int .i64 e.who, .string e.key, .int .i64 0, .int .i64 0, .int .i64 0, .slice none 0 0, .bool false, .int .i64 0, .bool true] rfl rfl ty rw_size (by simp [Value.oneCell']) ?_
          obtain ⟨V3, hV3⟩ : ∃ V, V2.setCells y 0 [.int .i64 e.who, .string e.key, .int .i64 0, .int .i64 0, .int .i64 0, .slice none 0 0, .bool false, .int .i64 0, .bool true] = V := ⟨_, rfl⟩
          have HB3 : Hid (Below wr.heap.size wr V3) := Lib.hid (by rw [← hV3]; exact below_setCells _ _ wy _ _ _ _ HB2.out)
          have ry : V3.rangeAt y 0 [.int .i64 e.who, .string e.key, .int .i64 0, .int .i64 0, .int .i64 0, .slice none 0 0, .bool false, .int .i64 0, .bool true] := by rw [← hV3]; exact World.rangeAt_setCells_same V2 y 0 _ ty
          replace ty : V3.there y 0 9 := by rw [← hV3]; exact World.there_setCells ty y 0 _
          replace rs : V3.rangeAt s 0 [.int .i64 1, .int .i64 e.nd, .int .i64 e.n, .int .i64 e.m, .int .u8 e.by_, .int .i64 e.sm, .int .i64 e.sc, .string e.key, .string e.hi, .slice e.A (pv k).length e.vc] := by rw [← hV3]; exact World.rangeAt_setCells_apart rs y 0 _ (.inl (Nat.ne_of_lt nsy))
          replace rq : V3.rangeAt q 0 [.int .i64 9, .int .i64 e.an, .int .i64 e.tm, .int .i64 e.tc, .bool e.fd, .slice e.B e.bl e.bc, .slice e.P e.pl e.pc] := by rw [← hV3]; exact World.rangeAt_setCells_apart rq y 0 _ (.inl (Nat.ne_of_lt nqy))
          replace ls : s < V3.heap.size := by rw [← hV3, setCells_size]; exact ls
          replace lq : q < V3.heap.size := by rw [← hV3, setCells_size]; exact lq
          replace ly : y < V3.heap.size := by rw [← hV3, setCells_size]; exact ly
          have hwho3 : V3.rangeAt B (O + k * 18) [.int .i64 e.who] := by
            rw [← hV3]
            refine World.rangeAt_setCells_apart (fun j u hu => ?_) y 0 _ (.inl (Nat.ne_of_lt nBy))
            rcases j with _ | j
            · cases hu; exact hwho
            · simp at hu
          rw [show V2.setCells y 0 _ = V3 from hV3]
          clear hV3 HB2
          refine hK.out _ _ ?_ (fun hHeld => ?_)
          · exact ⟨hwho3 0 _ rfl, rs 7 _ rfl, rq 0 _ rfl⟩
          clear hK K hwho hwho3 hBw nBy hHeld
          (try simp only [Act.put, List.setIfInBounds_toArray, List.set_cons_zero, List.set_cons_succ, List.getElem_toArray, List.getElem_cons_succ, List.getElem_cons_zero])
          refine wpAnyH_done (by kernel_rfl) ?_ _
          have s0 : V3.cell? ⟨s, 0, none⟩ = some (.int .i64 1) := rs 0 _ rfl
          have s1 : V3.cell? ⟨s, 1, none⟩ = some (.int .i64 e.nd) := rs 1 _ rfl
          go_upto_region 8 with fail
          refine wp_region_lit ?_
          refine wpList_plain rfl (fun KK hKK => ?_)
          go_simp
          refine hKK _ _ ?_
          refine wpList_plain rfl (fun KK hKK => ?_)
          go_simp
          refine hKK _ _ ?_
          refine wpList_plain rfl (fun KK hKK => ?_)
          go_simp
          refine hKK _ _ ?_
          refine wpList_plain rfl (fun KK hKK => ?_)
          go_simp
          refine hKK _ _ ?_
          refine wpList_plain rfl (fun KK hKK => ?_)
          go_simp
          refine hKK _ _ ?_
          refine wpList_plain rfl (fun KK hKK => ?_)
          go_simp
          refine hKK _ _ ?_
          refine wpList_plain rfl (fun KK hKK => ?_)
          go_simp
          refine hKK _ _ ?_
          refine wpList_store_mid rfl 35 (.tmp 59) (.tmp 58) rfl y 2 #[.int .i64 0, .int .i64 0, .int .i64 e.nd, .slice none 0 0, .bool false, .int .i64 0] rfl rfl (fun j hj => by have := ty (2 + j) (by simp at hj; omega); rwa [Nat.zero_add] at this) ver_size (by simp [Value.oneCell']) ?_
          refine wpList_nil ?_
          clear s0 s1
          obtain ⟨V4, hV4⟩ : ∃ V, V3.setCells y 2 [.int .i64 0, .int .i64 0, .int .i64 e.nd, .slice none 0 0, .bool false, .int .i64 0] = V := ⟨_, rfl⟩
          have HB4 : Hid (Below wr.heap.size wr V4) := Lib.hid (by rw [← hV4]; exact below_setCells _ _ wy _ _ _ _ HB3.out)
          replace ry : V4.rangeAt y 0 [.int .i64 e.who, .string e.key, .int .i64 0, .int .i64 0, .int .i64 e.nd, .slice none 0 0, .bool false, .int .i64 0, .bool true] := by rw [← hV4]; exact blk_setCells ry ty [.int .i64 0, .int .i64 0, .int .i64 e.nd, .slice none 0 0, .bool false, .int .i64 0] (by simp)
          replace ty : V4.there y 0 9 := by rw [← hV4]; exact World.there_setCells ty y 2 _
          replace rs : V4.rangeAt s 0 [.int .i64 1, .int .i64 e.nd, .int .i64 e.n, .int .i64 e.m, .int .u8 e.by_, .int .i64 e.sm, .int .i64 e.sc, .string e.key, .string e.hi, .slice e.A (pv k).length e.vc] := by rw [← hV4]; exact World.rangeAt_setCells_apart rs y 2 _ (.inl (Nat.ne_of_lt nsy))
          replace rq : V4.rangeAt q 0 [.int .i64 9, .int .i64 e.an, .int .i64 e.tm, .int .i64 e.tc, .bool e.fd, .slice e.B e.bl e.bc, .slice e.P e.pl e.pc] := by rw [← hV4]; exact World.rangeAt_setCells_apart rq y 2 _ (.inl (Nat.ne_of_lt nqy))
          replace ls : s < V4.heap.size := by rw [← hV4, setCells_size]; exact ls
          replace lq : q < V4.heap.size := by rw [← hV4, setCells_size]; exact lq
          replace ly : y < V4.heap.size := by rw [← hV4, setCells_size]; exact ly
          rw [show V3.setCells y 2 _ = V4 from hV4]
          clear hV4 HB3
          have y8 : V4.cell? ⟨y, 8, none⟩ = some (.bool true) := ry 8 _ rfl
          have s0 : V4.cell? ⟨s, 0, none⟩ = some (.int .i64 1) := rs 0 _ rfl
          have s9 : V4.cell? ⟨s, 9, none⟩ = some (.slice e.A (pv k).length e.vc) := rs 9 _ rfl
          have y5 : V4.cell? ⟨y, 5, none⟩ = some (.slice none 0 0) := ry 5 _ rfl
          have f5 := (ty 5 (by omega)).2
          rw [Nat.zero_add] at f5
          go_upto_region 12 with fail
          clear s0
          go_cut [7] from 70 to 75 (fun p7 wx => p7 = .pointer (some ⟨y, 0, none⟩) ∧ ∃ A2 c2, wx.rangeAt y 0 [.int .i64 e.who, .string e.key, .int .i64 0, .int .i64 0, .int .i64 e.nd, .slice A2 (pv k).length c2, .bool false, .int .i64 0, .bool true] ∧ wx.there y 0 9 ∧ wx.rangeAt s 0 [.int .i64 1, .int .i64 e.nd, .int .i64 e.n, .int .i64 e.m, .int .u8 e.by_, .int .i64 e.sm, .int .i64 e.sc, .string e.key, .string e.hi, .slice e.A (pv k).length e.vc] ∧ s < wx.heap.size ∧ y < wx.heap.size ∧ Below wr.heap.size wr wx ∧ ByL wx A2 (pv k) ∧ (A2 = none → (pv k).length = 0) ∧ ∀ ad, A2 = some ad → wr.heap.size ≤ ad.block ∧ ad.block < wx.heap.size ∧ ad.block ≠ y)
          case first =>
            have HPB5 := Lib.hid ((HPB.out.below (HB.out.trans (HB4.out.mono HB.out.size))).alloc (.cells #[] 5))
            have kA : Below V4.heap.size V4 (V4.alloc (.cells #[] 5)) := (Below.refl _ _).alloc (Nat.le_refl _) _
            have hmade := World.ownsRow_made (base := V4.heap.size) (e := 5) (size := 1) V4 #[] 0 (Nat.le_refl _) (Nat.zero_le _) rfl
            by_cases hp0 : 0 < (pv k).length
            · as_aux_lemma =>
              obtain ⟨ad, had⟩ : ∃ ad, e.A = some ad := by
                cases hA : e.A with
                | none => have := HPN.out hA; omega
                | some ad => exact ⟨ad, rfl⟩
              have HPB6 := HPB5.out
              rw [had] at HPB6 s9
              have hsrc := HPB6.cells
              clear HPB6 HPB5 had
              refine wp_region_lit ?_
              refine wpList_plain rfl (fun KK hKK => ?_)
              go_simp
              refine hKK _ _ ?_
              refine wpList_plain rfl (fun KK hKK => ?_)
              go_simp
              refine hKK _ _ ?_
              refine wpList_plain rfl (fun KK hKK => ?_)
              go_simp
              refine hKK _ _ ?_
              refine wpList_append_lies _ rfl (.tmp 70) (.tmp 72) _ rfl V4.heap.size 5 i8 _ 1 1 Try.underlying33 hi8 hy0 hy1 hy2 rfl (by decide) (.slice (some ⟨V4.heap.size, 0, none⟩) 0 0) 0 [] rfl hmade ad (pv k).length e.vc (bC (pv k)) rfl (by rw [bC_len]; omega) hsrc (bC_one _) hp0 (by unfold maxLen; have := HPL.out; omega) (by have := HPL.out; omega) (by simp) _ rfl ?_
              intro g1 cap1 VA hown0 hg1 hat1 hlt1
              have hown1 : VA.ownsRow V4.heap.size 5 1 (.slice (some ⟨g1, 0, none⟩) (pv k).length cap1) (pv k).length (bC (pv k)) := (by simpa using hown0)
              have kB : Below V4.heap.size V4 VA := kA.grown hg1 (by simp) (fun k hk => by simp [Value.ownBlock] at hk; omega)
              obtain ⟨A2, c2, heq, _, hby2, hn2, ha2⟩ := own8_shape hown1
              injection heq with e1 _ e2
              subst e1 e2
              have z0 : ((0 : Nat) + (pv k).length) = (pv k).length := Nat.zero_add _
              rw [z0]
              clear hown0 hown1 hg1 hat1 hlt1 hmade hsrc kA s9 z0
              have HY := Lib.hid (And.intro hby2 (And.intro hn2 ha2))
              clear hby2 hn2 ha2
              have rsA := range_below rs kB ls
              have ryA := range_below ry kB ly
              have tyA := there_below ty kB ly
              have y5A : VA.cell? ⟨y, 5, none⟩ = some (.slice none 0 0) := ryA 5 _ rfl
              have f5A : VA.frozen? ⟨y, 5, none⟩ = false := (kB.frozen (p := ⟨y, 5, none⟩) ly).trans f5
              have lsA := Nat.lt_of_lt_of_le ls kB.size
              have lyA := Nat.lt_of_lt_of_le ly kB.size
              have HBA := Lib.hid (HB4.out.trans (kB.mono HB4.out.size))
              have hzV : wr.heap.size ≤ V4.heap.size := HB4.out.size
              have nyV : y < V4.heap.size := ly
              clear kB ry rs rq ty y5 f5
              refine wpList_plain rfl (fun KK hKK => ?_)
              go_simp
              refine hKK _ _ ?_
              refine wpList_plain rfl (fun KK hKK => ?_)
              go_simp
              refine hKK _ _ ?_
              refine wpList_plain rfl (fun KK hKK => ?_)
              go_simp
              refine hKK _ _ ?_
              refine wpList_nil ?_
              obtain ⟨VX, hVX⟩ : ∃ VX, VA.setCells y 5 [.slice (some ⟨g1, 0, none⟩) (pv k).length cap1] = VX := ⟨_, rfl⟩
              rw [show VA.setCell ⟨y, 5, none⟩ (.slice (some ⟨g1, 0, none⟩) (pv k).length cap1) = VX from hVX]
              have HBX : Hid (Below wr.heap.size wr VX) := Lib.hid (by rw [← hVX]; exact below_setCells _ _ wy _ _ _ _ HBA.out)
              have ryX : VX.rangeAt y 0 [.int .i64 e.who, .string e.key, .int .i64 0, .int .i64 0, .int .i64 e.nd, .slice (some ⟨g1, 0, none⟩) (pv k).length cap1, .bool false, .int .i64 0, .bool true] := by rw [← hVX]; exact blk_setCells ryA tyA [.slice (some ⟨g1, 0, none⟩) (pv k).length cap1] (by simp)
              have tyX : VX.there y 0 9 := by rw [← hVX]; exact World.there_setCells tyA y 5 _
              have rsX : VX.rangeAt s 0 [.int .i64 1, .int .i64 e.nd, .int .i64 e.n, .int .i64 e.m, .int .u8 e.by_, .int .i64 e.sm, .int .i64 e.sc, .string e.key, .string e.hi, .slice e.A (pv k).length e.vc] := by rw [← hVX]; exact World.rangeAt_setCells_apart rsA y 5 _ (.inl (Nat.ne_of_lt nsy))
              have lsX : s < VX.heap.size := by rw [← hVX, setCells_size]; exact lsA
              have lyX : y < VX.heap.size := by rw [← hVX, setCells_size]; exact lyA
              have HYX : Hid (ByL VX (some ⟨g1, 0, none⟩) (pv k) ∧ (((some ⟨g1, 0, none⟩) : Option Addr) = none → (pv k).length = 0) ∧ ∀ ad, ((some ⟨g1, 0, none⟩) : Option Addr) = some ad → wr.heap.size ≤ ad.block ∧ ad.block < VX.heap.size ∧ ad.block ≠ y) := Lib.hid (by
                have hzX : VX.heap.size = VA.heap.size := by rw [← hVX, setCells_size]
                refine ⟨fun h0 => ?_, HY.out.2.1, fun ad ha => ⟨Nat.le_trans hzV (HY.out.2.2 ad ha).1, by rw [hzX]; exact (HY.out.2.2 ad ha).2, by have := (HY.out.2.2 ad ha).1; omega⟩⟩
                obtain ⟨B', O', hA', hB', hc'⟩ := HY.out.1 h0
                have hlo : V4.heap.size ≤ B' := (HY.out.2.2 _ hA').1
                refine ⟨B', O', hA', by rw [hzX]; exact hB', ?_⟩
                rw [← hVX]
                exact World.rangeAt_setCells_apart (b' := B') (o' := O') hc' y 5 _ (.inl (by omega)))
              clear hVX HY HBA ryA tyA rsA lsA lyA y5A f5A
              go_wp2_with fail
              go_meet
              exact ⟨rfl, _, _, ryX, tyX, rsX, lsX, lyX, HBX.out, HYX.out.1, HYX.out.2.1, HYX.out.2.2⟩
            · as_aux_lemma =>
              have hp1 : pv k = [] := List.length_eq_zero_iff.1 (by omega)
              obtain ⟨VA, hVA⟩ : ∃ VA, V4.alloc (.cells #[] 5) = VA := ⟨_, rfl⟩
              have kB : Below V4.heap.size V4 VA := by rw [← hVA]; exact kA
              have HY : Hid (ByL VA (some ⟨V4.heap.size, 0, none⟩) (pv k) ∧ ((some ⟨V4.heap.size, 0, none⟩ : Option Addr) = none → (pv k).length = 0) ∧ ∀ ad, (some ⟨V4.heap.size, 0, none⟩ : Option Addr) = some ad → V4.heap.size ≤ ad.block ∧ ad.block < VA.heap.size) := Lib.hid (by
                refine ⟨(by rw [hp1]; exact ByL.nil _ _), (fun h => by cases h), fun ad h => ?_⟩
                injection h with h
                subst h
                exact ⟨Nat.le_refl _, by rw [← hVA]; simp⟩)
              have hz0 : (pv k).length = 0 := by rw [hp1]; rfl
              rw [hz0] at s9
              have hld := empty_loads.1
              have hst := empty_loads.2
              have HVA := Lib.hid hVA
              clear hVA hmade HPB5 kA hp0
              obtain ⟨Ae, hAe⟩ : ∃ A, e.A = A := ⟨_, rfl⟩
              rw [hAe] at s9
              clear hAe
              rcases Ae with _ | ad
              · refine wp_region_lit ?_
                refine wpList_plain rfl (fun KK hKK => ?_)
                go_simp
                refine hKK _ _ ?_
                refine wpList_plain rfl (fun KK hKK => ?_)
                go_simp
                refine hKK _ _ ?_
                refine wpList_plain rfl (fun KK hKK => ?_)
                go_simp
                refine hKK _ _ ?_
                refine wpList_plain rfl (fun KK hKK => ?_)
                go_simp
                refine hKK _ _ ?_
                rw [HVA.out]
                clear HVA hld hst s9
                have rsA := range_below rs kB ls
                have ryA := range_below ry kB ly
                have tyA := there_below ty kB ly
                have y5A : VA.cell? ⟨y, 5, none⟩ = some (.slice none 0 0) := ryA 5 _ rfl
                have f5A : VA.frozen? ⟨y, 5, none⟩ = false := (kB.frozen (p := ⟨y, 5, none⟩) ly).trans f5
                have lsA := Nat.lt_of_lt_of_le ls kB.size
                have lyA := Nat.lt_of_lt_of_le ly kB.size
                have HBA := Lib.hid (HB4.out.trans (kB.mono HB4.out.size))
                have hzV : wr.heap.size ≤ V4.heap.size := HB4.out.size
                have nyV : y < V4.heap.size := ly
                clear kB ry rs rq ty y5 f5
                refine wpList_plain rfl (fun KK hKK => ?_)
                go_simp
                refine hKK _ _ ?_
                refine wpList_plain rfl (fun KK hKK => ?_)
                go_simp
                refine hKK _ _ ?_
                refine wpList_plain rfl (fun KK hKK => ?_)
                go_simp
                refine hKK _ _ ?_
                refine wpList_nil ?_
                rw [show (Value.slice (some ⟨V4.heap.size, 0, none⟩) 0 0) = .slice (some ⟨V4.heap.size, 0, none⟩) (pv k).length 0 from by rw [hz0]]
                obtain ⟨VX, hVX⟩ : ∃ VX, VA.setCells y 5 [.slice (some ⟨V4.heap.size, 0, none⟩) (pv k).length 0] = VX := ⟨_, rfl⟩
                rw [show VA.setCell ⟨y, 5, none⟩ (.slice (some ⟨V4.heap.size, 0, none⟩) (pv k).length 0) = VX from hVX]
                have HBX : Hid (Below wr.heap.size wr VX) := Lib.hid (by rw [← hVX]; exact below_setCells _ _ wy _ _ _ _ HBA.out)
                have ryX : VX.rangeAt y 0 [.int .i64 e.who, .string e.key, .int .i64 0, .int .i64 0, .int .i64 e.nd, .slice (some ⟨V4.heap.size, 0, none⟩) (pv k).length 0, .bool false, .int .i64 0, .bool true] := by rw [← hVX]; exact blk_setCells ryA tyA [.slice (some ⟨V4.heap.size, 0, none⟩) (pv k).length 0] (by simp)
                have tyX : VX.there y 0 9 := by rw [← hVX]; exact World.there_setCells tyA y 5 _
                have rsX : VX.rangeAt s 0 [.int .i64 1, .int .i64 e.nd, .int .i64 e.n, .int .i64 e.m, .int .u8 e.by_, .int .i64 e.sm, .int .i64 e.sc, .string e.key, .string e.hi, .slice e.A (pv k).length e.vc] := by rw [← hVX]; exact World.rangeAt_setCells_apart rsA y 5 _ (.inl (Nat.ne_of_lt nsy))
                have lsX : s < VX.heap.size := by rw [← hVX, setCells_size]; exact lsA
                have lyX : y < VX.heap.size := by rw [← hVX, setCells_size]; exact lyA
                have HYX : Hid (ByL VX (some ⟨V4.heap.size, 0, none⟩) (pv k) ∧ (((some ⟨V4.heap.size, 0, none⟩) : Option Addr) = none → (pv k).length = 0) ∧ ∀ ad, ((some ⟨V4.heap.size, 0, none⟩) : Option Addr) = some ad → wr.heap.size ≤ ad.block ∧ ad.block < VX.heap.size ∧ ad.block ≠ y) := Lib.hid (by
                  have hzX : VX.heap.size = VA.heap.size := by rw [← hVX, setCells_size]
                  refine ⟨fun h0 => ?_, HY.out.2.1, fun ad ha => ⟨Nat.le_trans hzV (HY.out.2.2 ad ha).1, by rw [hzX]; exact (HY.out.2.2 ad ha).2, by have := (HY.out.2.2 ad ha).1; omega⟩⟩
                  obtain ⟨B', O', hA', hB', hc'⟩ := HY.out.1 h0
                  have hlo : V4.heap.size ≤ B' := (HY.out.2.2 _ hA').1
                  refine ⟨B', O', hA', by rw [hzX]; exact hB', ?_⟩
                  rw [← hVX]
                  exact World.rangeAt_setCells_apart (b' := B') (o' := O') hc' y 5 _ (.inl (by omega)))
                clear hVX HY HBA ryA tyA rsA lsA lyA y5A f5A
                go_wp2_with fail
                go_meet
                exact ⟨rfl, _, _, ryX, tyX, rsX, lsX, lyX, HBX.out, HYX.out.1, HYX.out.2.1, HYX.out.2.2⟩
              · refine wp_region_lit ?_
                refine wpList_plain rfl (fun KK hKK => ?_)
                go_simp
                refine hKK _ _ ?_
                refine wpList_plain rfl (fun KK hKK => ?_)
                go_simp
                refine hKK _ _ ?_
                refine wpList_plain rfl (fun KK hKK => ?_)
                go_simp
                refine hKK _ _ ?_
                refine wpList_plain rfl (fun KK hKK => ?_)
                go_simp
                refine hKK _ _ ?_
                rw [HVA.out]
                clear HVA hld hst s9
                have rsA := range_below rs kB ls
                have ryA := range_below ry kB ly
                have tyA := there_below ty kB ly
                have y5A : VA.cell? ⟨y, 5, none⟩ = some (.slice none 0 0) := ryA 5 _ rfl
                have f5A : VA.frozen? ⟨y, 5, none⟩ = false := (kB.frozen (p := ⟨y, 5, none⟩) ly).trans f5
                have lsA := Nat.lt_of_lt_of_le ls kB.size
                have lyA := Nat.lt_of_lt_of_le ly kB.size
                have HBA := Lib.hid (HB4.out.trans (kB.mono HB4.out.size))
                have hzV : wr.heap.size ≤ V4.heap.size := HB4.out.size
                have nyV : y < V4.heap.size := ly
                clear kB ry rs rq ty y5 f5
                refine wpList_plain rfl (fun KK hKK => ?_)
                go_simp
                refine hKK _ _ ?_
                refine wpList_plain rfl (fun KK hKK => ?_)
                go_simp
                refine hKK _ _ ?_
                refine wpList_plain rfl (fun KK hKK => ?_)
                go_simp
                refine hKK _ _ ?_
                refine wpList_nil ?_
                rw [show (Value.slice (some ⟨V4.heap.size, 0, none⟩) 0 0) = .slice (some ⟨V4.heap.size, 0, none⟩) (pv k).length 0 from by rw [hz0]]
                obtain ⟨VX, hVX⟩ : ∃ VX, VA.setCells y 5 [.slice (some ⟨V4.heap.size, 0, none⟩) (pv k).length 0] = VX := ⟨_, rfl⟩
                rw [show VA.setCell ⟨y, 5, none⟩ (.slice (some ⟨V4.heap.size, 0, none⟩) (pv k).length 0) = VX from hVX]
                have HBX : Hid (Below wr.heap.size wr VX) := Lib.hid (by rw [← hVX]; exact below_setCells _ _ wy _ _ _ _ HBA.out)
                have ryX : VX.rangeAt y 0 [.int .i64 e.who, .string e.key, .int .i64 0, .int .i64 0, .int .i64 e.nd, .slice (some ⟨V4.heap.size, 0, none⟩) (pv k).length 0, .bool false, .int .i64 0, .bool true] := by rw [← hVX]; exact blk_setCells ryA tyA [.slice (some ⟨V4.heap.size, 0, none⟩) (pv k).length 0] (by simp)
                have tyX : VX.there y 0 9 := by rw [← hVX]; exact World.there_setCells tyA y 5 _
                have rsX : VX.rangeAt s 0 [.int .i64 1, .int .i64 e.nd, .int .i64 e.n, .int .i64 e.m, .int .u8 e.by_, .int .i64 e.sm, .int .i64 e.sc, .string e.key, .string e.hi, .slice e.A (pv k).length e.vc] := by rw [← hVX]; exact World.rangeAt_setCells_apart rsA y 5 _ (.inl (Nat.ne_of_lt nsy))
                have lsX : s < VX.heap.size := by rw [← hVX, setCells_size]; exact lsA
                have lyX : y < VX.heap.size := by rw [← hVX, setCells_size]; exact lyA
                have HYX : Hid (ByL VX (some ⟨V4.heap.size, 0, none⟩) (pv k) ∧ (((some ⟨V4.heap.size, 0, none⟩) : Option Addr) = none → (pv k).length = 0) ∧ ∀ ad, ((some ⟨V4.heap.size, 0, none⟩) : Option Addr) = some ad → wr.heap.size ≤ ad.block ∧ ad.block < VX.heap.size ∧ ad.block ≠ y) := Lib.hid (by
                  have hzX : VX.heap.size = VA.heap.size := by rw [← hVX, setCells_size]
                  refine ⟨fun h0 => ?_, HY.out.2.1, fun ad ha => ⟨Nat.le_trans hzV (HY.out.2.2 ad ha).1, by rw [hzX]; exact (HY.out.2.2 ad ha).2, by have := (HY.out.2.2 ad ha).1; omega⟩⟩
                  obtain ⟨B', O', hA', hB', hc'⟩ := HY.out.1 h0
                  have hlo : V4.heap.size ≤ B' := (HY.out.2.2 _ hA').1
                  refine ⟨B', O', hA', by rw [hzX]; exact hB', ?_⟩
                  rw [← hVX]
                  exact World.rangeAt_setCells_apart (b' := B') (o' := O') hc' y 5 _ (.inl (by omega)))
                clear hVX HY HBA ryA tyA rsA lsA lyA y5A f5A
                go_wp2_with fail
                go_meet
                exact ⟨rfl, _, _, ryX, tyX, rsX, lsX, lyX, HBX.out, HYX.out.1, HYX.out.2.1, HYX.out.2.2⟩
          case rest =>
          obtain ⟨rfl, A2, c2, ry', ty', rs', ls', ly', hb', hby, hn2, hal⟩ := hcut
          clear rs rq ry ty ls lq ly s9 y5 f5 HB4 nqy
          generalize wc = V6 at *
          have HB6 := Lib.hid hb'
          have HBY := Lib.hid (And.intro hby (And.intro hal hn2))
          clear hb' hby hn2 hal
          have s2 : V6.cell? ⟨s, 2, none⟩ = some (.int .i64 e.n) := rs' 2 _ rfl
          have y7 : V6.cell? ⟨y, 7, none⟩ = some (.int .i64 0) := ry' 7 _ rfl
          have f7 := (ty' 7 (by omega)).2
          rw [Nat.zero_add] at f7
          go_upto_region 13 with fail
          refine wp_region_lit ?_
          refine wpList_plain rfl (fun KK hKK => ?_)
          go_simp
          refine hKK _ _ ?_
          refine wpList_plain rfl (fun KK hKK => ?_)
          go_simp
          refine hKK _ _ ?_
          refine wpList_plain rfl (fun KK hKK => ?_)
          go_simp
          refine hKK _ _ ?_
          refine wpList_plain rfl (fun KK hKK => ?_)
          go_simp
          refine hKK _ _ ?_
          refine wpList_plain rfl (fun KK hKK => ?_)
          go_simp
          refine hKK _ _ ?_
          refine wpList_nil ?_
          obtain ⟨V7, hV7⟩ : ∃ V, V6.setCells y 7 [.int .i64 e.n] = V := ⟨_, rfl⟩
          rw [show V6.setCell ⟨y, 7, none⟩ (.int .i64 e.n) = V7 from hV7]
          have HB7 : Hid (Below wr.heap.size wr V7) := Lib.hid (by rw [← hV7]; exact below_setCells _ _ wy _ _ _ _ HB6.out)
          have ry : V7.rangeAt y 0 [.int .i64 e.who, .string e.key, .int .i64 0, .int .i64 0, .int .i64 e.nd, .slice A2 (pv k).length c2, .bool false, .int .i64 e.n, .bool true] := by rw [← hV7]; exact blk_setCells ry' ty' [.int .i64 e.n] (by simp)
          have ly : y < V7.heap.size := by rw [← hV7, setCells_size]; exact ly'
          have HBZ : Hid (ByL V7 A2 (pv k) ∧ (∀ ad, A2 = some ad → wr.heap.size ≤ ad.block ∧ ad.block < V7.heap.size) ∧ (A2 = none → (pv k).length = 0)) := Lib.hid (by
            have hzX : V7.heap.size = V6.heap.size := by rw [← hV7, setCells_size]
            refine ⟨fun h0 => ?_, fun ad ha => by rw [hzX]; exact ⟨(HBY.out.2.1 ad ha).1, (HBY.out.2.1 ad ha).2.1⟩, HBY.out.2.2⟩
            obtain ⟨B', O', hA', hB', hc'⟩ := HBY.out.1 h0
            have hny := (HBY.out.2.1 _ hA').2.2
            refine ⟨B', O', hA', by rw [hzX]; exact hB', ?_⟩
            rw [← hV7]
            exact World.rangeAt_setCells_apart (b' := B') (o' := O') hc' y 7 _ (.inl hny))
          clear hV7 ry' ty' rs' ls' ly' HB6 HBY s2 y7 f7 nsy
          obtain ⟨C, hC⟩ : ∃ C : List Value, C = (Wq.mk ⟨e.who, e.key, 0, 0, e.nd, (pv k), false, e.n, true⟩ A2 c2).cs := ⟨_, rfl⟩
          have hC9 : C.length = 9 := by rw [hC]; rfl
          have hrg4 : V7.rangeAt y 0 C := by
            rw [hC]
            skip
            exact ry
          have hC1 : ∀ u ∈ C, u.oneCell' = true := by rw [hC]; simp [Wq.cs, Value.oneCell']
          have HNEWS : Hid _ := Lib.hid (World.news_of_block (cs := C.toArray) (t := 38) (fr := (0, 0)) (heap_alloc_new V7 (.cells C.toArray 38)))
          have HBV : Hid (Below wr.heap.size wr V7) := HB7
          have HW4 := Lib.hid (HWS.out.below HBV.out)
          have hrow := World.ownsRow.alloc HW4.out.row (.cells C.toArray 38)
          have kA : Below V7.heap.size V7 (V7.alloc (.cells C.toArray 38)) := (Below.refl _ _).alloc (Nat.le_refl _) _
          have hw4 : w.heap.size ≤ V7.heap.size := Nat.le_trans HB.out.size HBV.out.size
          have HKA := Lib.hid kA
          have HCC := Lib.hid hC
          clear kA  ry hC
          go_upto_region 14 with fail
          refine wp_region_lit ?_
          refine wpList_plain rfl (fun KK hKK => ?_)
          go_simp
          refine hKK _ _ ?_
          refine wpList_load_mid rfl 38 (.tmp 7) rfl y 0 rfl C _ hrg4 Try.underlying38 rfl (by rw [hC9]; kernel_rfl) ?_
          refine wpList_buildSlice rfl 26 38 1 _ rfl C.toArray i0 _ Try.underlying26 hi0 hz0 (by rw [hz1]; omega) (by rw [hz1]; omega) (by rw [Array.toList_map]; exact fill9 i0 hz1 (.agg #[.int .i64 0, .string ⟨#[]⟩, .int .i64 0, .int .i64 0, .int .i64 0, .slice none 0 0, .bool false, .int .i64 0, .bool false]) C hC9) ?_
          refine wpList_append_lies _ rfl (.tmp 80) (.tmp 82) _ rfl w.heap.size 38 i0 _ 9 96 Try.underlying26 hi0 hz0 hz1 hz2 rfl (by decide) (.slice Av L'.length cv) L'.length (rowQ L') rfl hrow ⟨V7.heap.size, 0, none⟩ 1 1 C rfl (by rw [hC9]) HNEWS.out hC1 (by omega) (by unfold maxLen; omega) (by omega) (by simp; omega) _ rfl ?_
          intro g2 cap2 W5 hown2 hg2 hat2 hlt2
          refine wpList_plain rfl (fun KK hKK => ?_)
          go_simp
          refine hKK _ _ ?_
          refine wpList_nil ?_
          rw [HCC.out] at hown2
          have hlw : ∀ j, (Value.slice Av L'.length cv).ownBlock = some j → w.heap.size ≤ j ∧ j < wr.heap.size := fun j hj => World.ownsRow.lt HWS.out.row j hj
          have HAPP := Lib.hid (Wr5.app (x := Wq.mk ⟨e.who, e.key, 0, 0, e.nd, (pv k), false, e.n, true⟩ A2 c2) (HW4.out.below HKA.out) (HBZ.out.1.below HKA.out) HBZ.out.2.2 (fun ad ha => ⟨Nat.le_trans HB.out.size (HBZ.out.2.1 ad ha).1, Nat.lt_of_lt_of_le (HBZ.out.2.1 ad ha).2 HKA.out.size, fun q => by have := (hlw _ q).2; have := (HBZ.out.2.1 ad ha).1; omega⟩) hg2 hat2 hown2)
          have HBF := Lib.hid (((HB.out.trans (HBV.out.mono HB.out.size)).trans (HKA.out.mono hw4)).grown hg2 (by simp; omega) (fun j hj => (hlw j hj).1))
          have HMP : Hid ((L' ++ [Wq.mk ⟨e.who, e.key, 0, 0, e.nd, (pv k), false, e.n, true⟩ A2 c2]).map Wq.m = wsN L pv (k + 1)) := Lib.hid (by rw [List.map_append, HMAP.out, wsN_step HE.out]; simp [wOf, HKD.out.1, HKD.out.2])
          clear hown2 hg2 hat2 hlt2 hrow HKA HNEWS hlw hrg4 hC1 hC9 HCC
          go_wp2_with fail
          go_roundw
          case rel => exact ⟨k + 1, L' ++ [Wq.mk ⟨e.who, e.key, 0, 0, e.nd, (pv k), false, e.n, true⟩ A2 c2], by have := H1.out; omega, by simp, by simpa using HAPP.out, HMP.out, by simp; omega, HBF.out⟩
          all_goals ((try simp only [intOf]); have := H1.out; omega)
        · as_aux_lemma =>
          have rs : wz.rangeAt s 0 [.int .i64 2, .int .i64 e.nd, .int .i64 e.n, .int .i64 e.m, .int .u8 e.by_, .int .i64 e.sm, .int .i64 e.sc, .string e.key, .string e.hi, .slice e.A (pv k).length e.vc] := by
            have := hs
            unfold Ev.st at this
            rwa [hkd, hvl] at this
          have rq : wz.rangeAt q 0 [.int .i64 0, .int .i64 e.an, .int .i64 e.tm, .int .i64 e.tc, .bool e.fd, .slice e.B e.bl e.bc, .slice e.P e.pl e.pc] := by
            have := hq
            unfold Ev.an_ at this
            rwa [her] at this
          have HKD := Lib.hid (And.intro hkd her)
          clear hkd her hs hq hvl
          have s0 : wz.cell? ⟨s, 0, none⟩ = some (.int .i64 2) := rs 0 _ rfl
          have q0 : wz.cell? ⟨q, 0, none⟩ = some (.int .i64 0) := rq 0 _ rfl
          go_upto_region 7 with fail
          refine wp_region_held_drew (S := fun w' => w'.cell? ⟨B, O + k * 18, none⟩ = some (.int .i64 e.who) ∧ w'.cell? ⟨s, 7, none⟩ = some (.string e.key) ∧ w'.cell? ⟨q, 0, none⟩ = some (.int .i64 0)) (by kernel_rfl) ?_ (fun hHeld => ?_)
          · exact ⟨hwho, rs 7 _ rfl, rq 0 _ rfl⟩
          have k1 : Below wz.heap.size wz wz.drew := (Below.refl _ _).drew
          obtain ⟨V1, hV1⟩ : ∃ V1, wz.drew = V1 := ⟨_, rfl⟩
          rw [hV1] at k1 hHeld ⊢
          clear hV1 s0 q0
          replace rs := range_below rs k1 ls
          replace rq := range_below rq k1 lq
          replace hwho := (k1.cell (p := ⟨B, O + k * 18, none⟩) hBw).trans hwho
          replace ls := Nat.lt_of_lt_of_le ls k1.size
          replace lq := Nat.lt_of_lt_of_le lq k1.size
          replace hBw := Nat.lt_of_lt_of_le hBw k1.size
          have HB1 := Lib.hid (HBC.out.trans (k1.mono HBC.out.size))
          clear k1
          refine tk9 0 ?_
          refine tk9 1 ?_
          refine tk9 2 ?_
          refine tk9 3 ?_
          refine tk9 4 ?_
          refine tk9 5 ?_
          refine tk9 6 ?_
          refine tk9 7 ?_
          refine tk9 8 ?_
          refine tk9 9 ?_
          refine tk9 10 (hy := build_y (by rfl) 38 _ rfl _ (by rw [Array.toList_map]; rfl) _ (bldW e.who e.key false)) ?_
          refine wpAnyH_ready (rs := [11]) (by kernel_rfl) (by simp) ?_
          refine AllReadyH.cons rfl (fun K hK => ?_) (AllReadyH.nil)
          go_simp
          (try dsimp only)
          obtain ⟨V2, hV2⟩ : ∃ V, V1.alloc (.cells #[.int .i64 0, .string ⟨#[]⟩, .int .i64 0, .int .i64 0, .int .i64 0, .slice none 0 0, .bool false, .int .i64 0, .bool false] 38) = V := ⟨_, rfl⟩
          have k2 : Below V1.heap.size V1 V2 := by rw [← hV2]; exact (Below.refl _ _).alloc (Nat.le_refl _) _
          have ty : V2.there V1.heap.size 0 9 := by rw [← hV2]; exact there_new V1 _ _
          have ly : V1.heap.size < V2.heap.size := by rw [← hV2]; simp
          rw [hV2]
          clear hV2
          have nsy : s < V1.heap.size := ls
          have nqy : q < V1.heap.size := lq
          have nBy : B < V1.heap.size := hBw
          have wy : wr.heap.size ≤ V1.heap.size := HB1.out.size
          replace rs := range_below rs k2 ls
          replace rq := range_below rq k2 lq
          replace hwho := (k2.cell (p := ⟨B, O + k * 18, none⟩) hBw).trans hwho
          replace ls := Nat.lt_of_lt_of_le ls k2.size
          replace lq := Nat.lt_of_lt_of_le lq k2.size
          replace hBw := Nat.lt_of_lt_of_le hBw k2.size
          have HB2 := Lib.hid (HB1.out.trans (k2.mono HB1.out.size))
          refine hK.out _ _ ?_ (fun hHeld => ?_)
          · exact ⟨hwho, rs 7 _ rfl, rq 0 _ rfl⟩
          clear hK K k2 HB1
          (try simp only [Act.put, List.setIfInBounds_toArray, List.set_cons_zero, List.set_cons_succ, List.getElem_toArray, List.getElem_cons_succ, List.getElem_cons_zero])
          generalize V1.heap.size = y at *
          refine wpAnyH_ready (rs := [12]) (by kernel_rfl) (by simp) ?_
          refine AllReadyH.cons rfl (fun K hK => ?_) (AllReadyH.nil)
          rw [if_pos (by rfl)]
          refine wp_store_mid 38 (.tmp 7) (.tmp 52) rfl y 0 #[.int .i64 e.who, .string e.key, .int .i64 0, .int .i64 0, .int .i64 0, .slice none 0 0, .bool false, .int .i64 0, .bool false] rfl rfl ty rw_size (by simp [Value.oneCell']) ?_
          obtain ⟨V3, hV3⟩ : ∃ V, V2.setCells y 0 [.int .i64 e.who, .string e.key, .int .i64 0, .int .i64 0, .int .i64 0, .slice none 0 0, .bool false, .int .i64 0, .bool false] = V := ⟨_, rfl⟩
          have HB3 : Hid (Below wr.heap.size wr V3) := Lib.hid (by rw [← hV3]; exact below_setCells _ _ wy _ _ _ _ HB2.out)
          have ry : V3.rangeAt y 0 [.int .i64 e.who, .string e.key, .int .i64 0, .int .i64 0, .int .i64 0, .slice none 0 0, .bool false, .int .i64 0, .bool false] := by rw [← hV3]; exact World.rangeAt_setCells_same V2 y 0 _ ty
          replace ty : V3.there y 0 9 := by rw [← hV3]; exact World.there_setCells ty y 0 _
          replace rs : V3.rangeAt s 0 [.int .i64 2, .int .i64 e.nd, .int .i64 e.n, .int .i64 e.m, .int .u8 e.by_, .int .i64 e.sm, .int .i64 e.sc, .string e.key, .string e.hi, .slice e.A (pv k).length e.vc] := by rw [← hV3]; exact World.rangeAt_setCells_apart rs y 0 _ (.inl (Nat.ne_of_lt nsy))
          replace rq : V3.rangeAt q 0 [.int .i64 0, .int .i64 e.an, .int .i64 e.tm, .int .i64 e.tc, .bool e.fd, .slice e.B e.bl e.bc, .slice e.P e.pl e.pc] := by rw [← hV3]; exact World.rangeAt_setCells_apart rq y 0 _ (.inl (Nat.ne_of_lt nqy))
          replace ls : s < V3.heap.size := by rw [← hV3, setCells_size]; exact ls
          replace lq : q < V3.heap.size := by rw [← hV3, setCells_size]; exact lq
          replace ly : y < V3.heap.size := by rw [← hV3, setCells_size]; exact ly
          have hwho3 : V3.rangeAt B (O + k * 18) [.int .i64 e.who] := by
            rw [← hV3]
            refine World.rangeAt_setCells_apart (fun j u hu => ?_) y 0 _ (.inl (Nat.ne_of_lt nBy))
            rcases j with _ | j
            · cases hu; exact hwho
            · simp at hu
          rw [show V2.setCells y 0 _ = V3 from hV3]
          clear hV3 HB2
          refine hK.out _ _ ?_ (fun hHeld => ?_)
          · exact ⟨hwho3 0 _ rfl, rs 7 _ rfl, rq 0 _ rfl⟩
          clear hK K hwho hwho3 hBw nBy hHeld
          (try simp only [Act.put, List.setIfInBounds_toArray, List.set_cons_zero, List.set_cons_succ, List.getElem_toArray, List.getElem_cons_succ, List.getElem_cons_zero])
          refine wpAnyH_done (by kernel_rfl) ?_ _
          have s0 : V3.cell? ⟨s, 0, none⟩ = some (.int .i64 2) := rs 0 _ rfl
          have s1 : V3.cell? ⟨s, 1, none⟩ = some (.int .i64 e.nd) := rs 1 _ rfl
          go_upto_region 8 with fail
          refine wp_region_lit ?_
          refine wpList_plain rfl (fun KK hKK => ?_)
          go_simp
          refine hKK _ _ ?_
          refine wpList_plain rfl (fun KK hKK => ?_)
          go_simp
          refine hKK _ _ ?_
          refine wpList_plain rfl (fun KK hKK => ?_)
          go_simp
          refine hKK _ _ ?_
          refine wpList_plain rfl (fun KK hKK => ?_)
          go_simp
          refine hKK _ _ ?_
          refine wpList_plain rfl (fun KK hKK => ?_)
          go_simp
          refine hKK _ _ ?_
          refine wpList_plain rfl (fun KK hKK => ?_)
          go_simp
          refine hKK _ _ ?_
          refine wpList_plain rfl (fun KK hKK => ?_)
          go_simp
          refine hKK _ _ ?_
          refine wpList_store_mid rfl 35 (.tmp 59) (.tmp 58) rfl y 2 #[.int .i64 0, .int .i64 0, .int .i64 e.nd, .slice none 0 0, .bool true, .int .i64 0] rfl rfl (fun j hj => by have := ty (2 + j) (by simp at hj; omega); rwa [Nat.zero_add] at this) ver_size (by simp [Value.oneCell']) ?_
          refine wpList_nil ?_
          clear s0 s1
          obtain ⟨V4, hV4⟩ : ∃ V, V3.setCells y 2 [.int .i64 0, .int .i64 0, .int .i64 e.nd, .slice none 0 0, .bool true, .int .i64 0] = V := ⟨_, rfl⟩
          have HB4 : Hid (Below wr.heap.size wr V4) := Lib.hid (by rw [← hV4]; exact below_setCells _ _ wy _ _ _ _ HB3.out)
          replace ry : V4.rangeAt y 0 [.int .i64 e.who, .string e.key, .int .i64 0, .int .i64 0, .int .i64 e.nd, .slice none 0 0, .bool true, .int .i64 0, .bool false] := by rw [← hV4]; exact blk_setCells ry ty [.int .i64 0, .int .i64 0, .int .i64 e.nd, .slice none 0 0, .bool true, .int .i64 0] (by simp)
          replace ty : V4.there y 0 9 := by rw [← hV4]; exact World.there_setCells ty y 2 _
          replace rs : V4.rangeAt s 0 [.int .i64 2, .int .i64 e.nd, .int .i64 e.n, .int .i64 e.m, .int .u8 e.by_, .int .i64 e.sm, .int .i64 e.sc, .string e.key, .string e.hi, .slice e.A (pv k).length e.vc] := by rw [← hV4]; exact World.rangeAt_setCells_apart rs y 2 _ (.inl (Nat.ne_of_lt nsy))
          replace rq : V4.rangeAt q 0 [.int .i64 0, .int .i64 e.an, .int .i64 e.tm, .int .i64 e.tc, .bool e.fd, .slice e.B e.bl e.bc, .slice e.P e.pl e.pc] := by rw [← hV4]; exact World.rangeAt_setCells_apart rq y 2 _ (.inl (Nat.ne_of_lt nqy))
          replace ls : s < V4.heap.size := by rw [← hV4, setCells_size]; exact ls
          replace lq : q < V4.heap.size := by rw [← hV4, setCells_size]; exact lq
          replace ly : y < V4.heap.size := by rw [← hV4, setCells_size]; exact ly
          rw [show V3.setCells y 2 _ = V4 from hV4]
          clear hV4 HB3
          have y8 : V4.cell? ⟨y, 8, none⟩ = some (.bool false) := ry 8 _ rfl
          have q2 : V4.cell? ⟨q, 2, none⟩ = some (.int .i64 e.tm) := rq 2 _ rfl
          have q3 : V4.cell? ⟨q, 3, none⟩ = some (.int .i64 e.tc) := rq 3 _ rfl
          go_upto_region 10 with fail
          refine wp_region_lit ?_
          refine wpList_plain rfl (fun KK hKK => ?_)
          go_simp
          refine hKK _ _ ?_
          refine wpList_plain rfl (fun KK hKK => ?_)
          go_simp
          refine hKK _ _ ?_
          refine wpList_plain rfl (fun KK hKK => ?_)
          go_simp
          refine hKK _ _ ?_
          refine wpList_plain rfl (fun KK hKK => ?_)
          go_simp
          refine hKK _ _ ?_
          refine wpList_store_mid rfl 32 (.tmp 66) (.tmp 64) rfl y 2 #[.int .i64 e.tm, .int .i64 e.tc] rfl rfl (fun j hj => by have := ty (2 + j) (by simp at hj; omega); rwa [Nat.zero_add] at this) stamp_size (by simp [Value.oneCell']) ?_
          refine wpList_nil ?_
          clear q2 q3 y8
          obtain ⟨V5, hV5⟩ : ∃ V, V4.setCells y 2 [.int .i64 e.tm, .int .i64 e.tc] = V := ⟨_, rfl⟩
          have HB5 : Hid (Below wr.heap.size wr V5) := Lib.hid (by rw [← hV5]; exact below_setCells _ _ wy _ _ _ _ HB4.out)
          replace ry : V5.rangeAt y 0 [.int .i64 e.who, .string e.key, .int .i64 e.tm, .int .i64 e.tc, .int .i64 e.nd, .slice none 0 0, .bool true, .int .i64 0, .bool false] := by rw [← hV5]; exact blk_setCells ry ty [.int .i64 e.tm, .int .i64 e.tc] (by simp)
          replace ty : V5.there y 0 9 := by rw [← hV5]; exact World.there_setCells ty y 2 _
          replace rs : V5.rangeAt s 0 [.int .i64 2, .int .i64 e.nd, .int .i64 e.n, .int .i64 e.m, .int .u8 e.by_, .int .i64 e.sm, .int .i64 e.sc, .string e.key, .string e.hi, .slice e.A (pv k).length e.vc] := by rw [← hV5]; exact World.rangeAt_setCells_apart rs y 2 _ (.inl (Nat.ne_of_lt nsy))
          replace rq : V5.rangeAt q 0 [.int .i64 0, .int .i64 e.an, .int .i64 e.tm, .int .i64 e.tc, .bool e.fd, .slice e.B e.bl e.bc, .slice e.P e.pl e.pc] := by rw [← hV5]; exact World.rangeAt_setCells_apart rq y 2 _ (.inl (Nat.ne_of_lt nqy))
          replace ls : s < V5.heap.size := by rw [← hV5, setCells_size]; exact ls
          replace lq : q < V5.heap.size := by rw [← hV5, setCells_size]; exact lq
          replace ly : y < V5.heap.size := by rw [← hV5, setCells_size]; exact ly
          rw [show V4.setCells y 2 _ = V5 from hV5]
          clear hV5 HB4
          have s0 : V5.cell? ⟨s, 0, none⟩ = some (.int .i64 2) := rs 0 _ rfl
          obtain ⟨A2, hA2⟩ : ∃ A : Option Addr, A = none := ⟨_, rfl⟩
          obtain ⟨c2, hc2⟩ : ∃ c : Nat, c = 0 := ⟨_, rfl⟩
          have HBZ : Hid (ByL V5 A2 [] ∧ (∀ ad, A2 = some ad → wr.heap.size ≤ ad.block ∧ ad.block < V5.heap.size) ∧ (A2 = none → ([] : List Int).length = 0)) := Lib.hid ⟨ByL.nil _ _, fun ad ha => by (rw [hA2] at ha; cases ha), fun _ => rfl⟩
          obtain ⟨C, hC⟩ : ∃ C : List Value, C = (Wq.mk ⟨e.who, e.key, e.tm, e.tc, e.nd, [], true, 0, false⟩ A2 c2).cs := ⟨_, rfl⟩
          have hC9 : C.length = 9 := by rw [hC]; rfl
          have hrg4 : V5.rangeAt y 0 C := by
            rw [hC]
            subst hA2 hc2
            exact ry
          have hC1 : ∀ u ∈ C, u.oneCell' = true := by rw [hC]; simp [Wq.cs, Value.oneCell']
          have HNEWS : Hid _ := Lib.hid (World.news_of_block (cs := C.toArray) (t := 38) (fr := (0, 0)) (heap_alloc_new V5 (.cells C.toArray 38)))
          have HBV : Hid (Below wr.heap.size wr V5) := HB5
          have HW4 := Lib.hid (HWS.out.below HBV.out)
          have hrow := World.ownsRow.alloc HW4.out.row (.cells C.toArray 38)
          have kA : Below V5.heap.size V5 (V5.alloc (.cells C.toArray 38)) := (Below.refl _ _).alloc (Nat.le_refl _) _
          have hw4 : w.heap.size ≤ V5.heap.size := Nat.le_trans HB.out.size HBV.out.size
          have HKA := Lib.hid kA
          have HCC := Lib.hid hC
          clear kA hA2 hc2 rs rq ls lq ty nsy nqy ry hC
          go_upto_region 14 with fail
          refine wp_region_lit ?_
          refine wpList_plain rfl (fun KK hKK => ?_)
          go_simp
          refine hKK _ _ ?_
          refine wpList_load_mid rfl 38 (.tmp 7) rfl y 0 rfl C _ hrg4 Try.underlying38 rfl (by rw [hC9]; kernel_rfl) ?_
          refine wpList_buildSlice rfl 26 38 1 _ rfl C.toArray i0 _ Try.underlying26 hi0 hz0 (by rw [hz1]; omega) (by rw [hz1]; omega) (by rw [Array.toList_map]; exact fill9 i0 hz1 (.agg #[.int .i64 0, .string ⟨#[]⟩, .int .i64 0, .int .i64 0, .int .i64 0, .slice none 0 0, .bool false, .int .i64 0, .bool false]) C hC9) ?_
          refine wpList_append_lies _ rfl (.tmp 80) (.tmp 82) _ rfl w.heap.size 38 i0 _ 9 96 Try.underlying26 hi0 hz0 hz1 hz2 rfl (by decide) (.slice Av L'.length cv) L'.length (rowQ L') rfl hrow ⟨V5.heap.size, 0, none⟩ 1 1 C rfl (by rw [hC9]) HNEWS.out hC1 (by omega) (by unfold maxLen; omega) (by omega) (by simp; omega) _ rfl ?_
          intro g2 cap2 W5 hown2 hg2 hat2 hlt2
          refine wpList_plain rfl (fun KK hKK => ?_)
          go_simp
          refine hKK _ _ ?_
          refine wpList_nil ?_
          rw [HCC.out] at hown2
          have hlw : ∀ j, (Value.slice Av L'.length cv).ownBlock = some j → w.heap.size ≤ j ∧ j < wr.heap.size := fun j hj => World.ownsRow.lt HWS.out.row j hj
          have HAPP := Lib.hid (Wr5.app (x := Wq.mk ⟨e.who, e.key, e.tm, e.tc, e.nd, [], true, 0, false⟩ A2 c2) (HW4.out.below HKA.out) (HBZ.out.1.below HKA.out) HBZ.out.2.2 (fun ad ha => ⟨Nat.le_trans HB.out.size (HBZ.out.2.1 ad ha).1, Nat.lt_of_lt_of_le (HBZ.out.2.1 ad ha).2 HKA.out.size, fun q => by have := (hlw _ q).2; have := (HBZ.out.2.1 ad ha).1; omega⟩) hg2 hat2 hown2)
          have HBF := Lib.hid (((HB.out.trans (HBV.out.mono HB.out.size)).trans (HKA.out.mono hw4)).grown hg2 (by simp; omega) (fun j hj => (hlw j hj).1))
          have HMP : Hid ((L' ++ [Wq.mk ⟨e.who, e.key, e.tm, e.tc, e.nd, [], true, 0, false⟩ A2 c2]).map Wq.m = wsN L pv (k + 1)) := Lib.hid (by rw [List.map_append, HMAP.out, wsN_step HE.out]; simp [wOf, HKD.out.1, HKD.out.2])
          clear hown2 hg2 hat2 hlt2 hrow HKA HNEWS hlw hrg4 hC1 hC9 HCC
          go_wp2_with fail
          go_roundw
          case rel => exact ⟨k + 1, L' ++ [Wq.mk ⟨e.who, e.key, e.tm, e.tc, e.nd, [], true, 0, false⟩ A2 c2], by have := H1.out; omega, by simp, by simpa using HAPP.out, HMP.out, by simp; omega, HBF.out⟩
          all_goals ((try simp only [intOf]); have := H1.out; omega)
        · as_aux_lemma =>
          have rs : wz.rangeAt s 0 [.int .i64 2, .int .i64 e.nd, .int .i64 e.n, .int .i64 e.m, .int .u8 e.by_, .int .i64 e.sm, .int .i64 e.sc, .string e.key, .string e.hi, .slice e.A (pv k).length e.vc] := by
            have := hs
            unfold Ev.st at this
            rwa [hkd, hvl] at this
          have rq : wz.rangeAt q 0 [.int .i64 9, .int .i64 e.an, .int .i64 e.tm, .int .i64 e.tc, .bool e.fd, .slice e.B e.bl e.bc, .slice e.P e.pl e.pc] := by
            have := hq
            unfold Ev.an_ at this
            rwa [her] at this
          have HKD := Lib.hid (And.intro hkd her)
          clear hkd her hs hq hvl
          have s0 : wz.cell? ⟨s, 0, none⟩ = some (.int .i64 2) := rs 0 _ rfl
          have q0 : wz.cell? ⟨q, 0, none⟩ = some (.int .i64 9) := rq 0 _ rfl
          go_upto_region 7 with fail
          refine wp_region_held_drew (S := fun w' => w'.cell? ⟨B, O + k * 18, none⟩ = some (.int .i64 e.who) ∧ w'.cell? ⟨s, 7, none⟩ = some (.string e.key) ∧ w'.cell? ⟨q, 0, none⟩ = some (.int .i64 9)) (by kernel_rfl) ?_ (fun hHeld => ?_)
          · exact ⟨hwho, rs 7 _ rfl, rq 0 _ rfl⟩
          have k1 : Below wz.heap.size wz wz.drew := (Below.refl _ _).drew
          obtain ⟨V1, hV1⟩ : ∃ V1, wz.drew = V1 := ⟨_, rfl⟩
          rw [hV1] at k1 hHeld ⊢
          clear hV1 s0 q0
          replace rs := range_below rs k1 ls
          replace rq := range_below rq k1 lq
          replace hwho := (k1.cell (p := ⟨B, O + k * 18, none⟩) hBw).trans hwho
          replace ls := Nat.lt_of_lt_of_le ls k1.size
          replace lq := Nat.lt_of_lt_of_le lq k1.size
          replace hBw := Nat.lt_of_lt_of_le hBw k1.size
          have HB1 := Lib.hid (HBC.out.trans (k1.mono HBC.out.size))
          clear k1
          refine tk9 0 ?_
          refine tk9 1 ?_
          refine tk9 2 ?_
          refine tk9 3 ?_
          refine tk9 4 ?_
          refine tk9 5 ?_
          refine tk9 6 ?_
          refine tk9 7 ?_
          refine tk9 8 ?_
          refine tk9 9 ?_
          refine tk9 10 (hy := build_y (by rfl) 38 _ rfl _ (by rw [Array.toList_map]; rfl) _ (bldW e.who e.key true)) ?_
          refine wpAnyH_ready (rs := [11]) (by kernel_rfl) (by simp) ?_
          refine AllReadyH.cons rfl (fun K hK => ?_) (AllReadyH.nil)
          go_simp
          (try dsimp only)
          obtain ⟨V2, hV2⟩ : ∃ V, V1.alloc (.cells #[.int .i64 0, .string ⟨#[]⟩, .int .i64 0, .int .i64 0, .int .i64 0, .slice none 0 0, .bool false, .int .i64 0, .bool false] 38) = V := ⟨_, rfl⟩
          have k2 : Below V1.heap.size V1 V2 := by rw [← hV2]; exact (Below.refl _ _).alloc (Nat.le_refl _) _
          have ty : V2.there V1.heap.size 0 9 := by rw [← hV2]; exact there_new V1 _ _
          have ly : V1.heap.size < V2.heap.size := by rw [← hV2]; simp
          rw [hV2]
          clear hV2
          have nsy : s < V1.heap.size := ls
          have nqy : q < V1.heap.size := lq
          have nBy : B < V1.heap.size := hBw
          have wy : wr.heap.size ≤ V1.heap.size := HB1.out.size
          replace rs := range_below rs k2 ls
          replace rq := range_below rq k2 lq
          replace hwho := (k2.cell (p := ⟨B, O + k * 18, none⟩) hBw).trans hwho
          replace ls := Nat.lt_of_lt_of_le ls k2.size
          replace lq := Nat.lt_of_lt_of_le lq k2.size
          replace hBw := Nat.lt_of_lt_of_le hBw k2.size
          have HB2 := Lib.hid (HB1.out.trans (k2.mono HB1.out.size))
          refine hK.out _ _ ?_ (fun hHeld => ?_)
          · exact ⟨hwho, rs 7 _ rfl, rq 0 _ rfl⟩
          clear hK K k2 HB1
          (try simp only [Act.put, List.setIfInBounds_toArray, List.set_cons_zero, List.set_cons_succ, List.getElem_toArray, List.getElem_cons_succ, List.getElem_cons_zero])
          generalize V1.heap.size = y at *
          refine wpAnyH_ready (rs := [12]) (by kernel_rfl) (by simp) ?_
          refine AllReadyH.cons rfl (fun K hK => ?_) (AllReadyH.nil)
          rw [if_pos (by rfl)]
          refine wp_store_mid 38 (.tmp 7) (.tmp 52) rfl y 0 #[.int .i64 e.who, .string e.key, .int .i64 0, .int .i64 0, .int .i64 0, .slice none 0 0, .bool false, .int .i64 0, .bool true] rfl rfl ty rw_size (by simp [Value.oneCell']) ?_
          obtain ⟨V3, hV3⟩ : ∃ V, V2.setCells y 0 [.int .i64 e.who, .string e.key, .int .i64 0, .int .i64 0, .int .i64 0, .slice none 0 0, .bool false, .int .i64 0, .bool true] = V := ⟨_, rfl⟩
          have HB3 : Hid (Below wr.heap.size wr V3) := Lib.hid (by rw [← hV3]; exact below_setCells _ _ wy _ _ _ _ HB2.out)
          have ry : V3.rangeAt y 0 [.int .i64 e.who, .string e.key, .int .i64 0, .int .i64 0, .int .i64 0, .slice none 0 0, .bool false, .int .i64 0, .bool true] := by rw [← hV3]; exact World.rangeAt_setCells_same V2 y 0 _ ty
          replace ty : V3.there y 0 9 := by rw [← hV3]; exact World.there_setCells ty y 0 _
          replace rs : V3.rangeAt s 0 [.int .i64 2, .int .i64 e.nd, .int .i64 e.n, .int .i64 e.m, .int .u8 e.by_, .int .i64 e.sm, .int .i64 e.sc, .string e.key, .string e.hi, .slice e.A (pv k).length e.vc] := by rw [← hV3]; exact World.rangeAt_setCells_apart rs y 0 _ (.inl (Nat.ne_of_lt nsy))
          replace rq : V3.rangeAt q 0 [.int .i64 9, .int .i64 e.an, .int .i64 e.tm, .int .i64 e.tc, .bool e.fd, .slice e.B e.bl e.bc, .slice e.P e.pl e.pc] := by rw [← hV3]; exact World.rangeAt_setCells_apart rq y 0 _ (.inl (Nat.ne_of_lt nqy))
          replace ls : s < V3.heap.size := by rw [← hV3, setCells_size]; exact ls
          replace lq : q < V3.heap.size := by rw [← hV3, setCells_size]; exact lq
          replace ly : y < V3.heap.size := by rw [← hV3, setCells_size]; exact ly
          have hwho3 : V3.rangeAt B (O + k * 18) [.int .i64 e.who] := by
            rw [← hV3]
            refine World.rangeAt_setCells_apart (fun j u hu => ?_) y 0 _ (.inl (Nat.ne_of_lt nBy))
            rcases j with _ | j
            · cases hu; exact hwho
            · simp at hu
          rw [show V2.setCells y 0 _ = V3 from hV3]
          clear hV3 HB2
          refine hK.out _ _ ?_ (fun hHeld => ?_)
          · exact ⟨hwho3 0 _ rfl, rs 7 _ rfl, rq 0 _ rfl⟩
          clear hK K hwho hwho3 hBw nBy hHeld
          (try simp only [Act.put, List.setIfInBounds_toArray, List.set_cons_zero, List.set_cons_succ, List.getElem_toArray, List.getElem_cons_succ, List.getElem_cons_zero])
          refine wpAnyH_done (by kernel_rfl) ?_ _
          have s0 : V3.cell? ⟨s, 0, none⟩ = some (.int .i64 2) := rs 0 _ rfl
          have s1 : V3.cell? ⟨s, 1, none⟩ = some (.int .i64 e.nd) := rs 1 _ rfl
          go_upto_region 8 with fail
          refine wp_region_lit ?_
          refine wpList_plain rfl (fun KK hKK => ?_)
          go_simp
          refine hKK _ _ ?_
          refine wpList_plain rfl (fun KK hKK => ?_)
          go_simp
          refine hKK _ _ ?_
          refine wpList_plain rfl (fun KK hKK => ?_)
          go_simp
          refine hKK _ _ ?_
          refine wpList_plain rfl (fun KK hKK => ?_)
          go_simp
          refine hKK _ _ ?_
          refine wpList_plain rfl (fun KK hKK => ?_)
          go_simp
          refine hKK _ _ ?_
          refine wpList_plain rfl (fun KK hKK => ?_)
          go_simp
          refine hKK _ _ ?_
          refine wpList_plain rfl (fun KK hKK => ?_)
          go_simp
          refine hKK _ _ ?_
          refine wpList_store_mid rfl 35 (.tmp 59) (.tmp 58) rfl y 2 #[.int .i64 0, .int .i64 0, .int .i64 e.nd, .slice none 0 0, .bool true, .int .i64 0] rfl rfl (fun j hj => by have := ty (2 + j) (by simp at hj; omega); rwa [Nat.zero_add] at this) ver_size (by simp [Value.oneCell']) ?_
          refine wpList_nil ?_
          clear s0 s1
          obtain ⟨V4, hV4⟩ : ∃ V, V3.setCells y 2 [.int .i64 0, .int .i64 0, .int .i64 e.nd, .slice none 0 0, .bool true, .int .i64 0] = V := ⟨_, rfl⟩
          have HB4 : Hid (Below wr.heap.size wr V4) := Lib.hid (by rw [← hV4]; exact below_setCells _ _ wy _ _ _ _ HB3.out)
          replace ry : V4.rangeAt y 0 [.int .i64 e.who, .string e.key, .int .i64 0, .int .i64 0, .int .i64 e.nd, .slice none 0 0, .bool true, .int .i64 0, .bool true] := by rw [← hV4]; exact blk_setCells ry ty [.int .i64 0, .int .i64 0, .int .i64 e.nd, .slice none 0 0, .bool true, .int .i64 0] (by simp)
          replace ty : V4.there y 0 9 := by rw [← hV4]; exact World.there_setCells ty y 2 _
          replace rs : V4.rangeAt s 0 [.int .i64 2, .int .i64 e.nd, .int .i64 e.n, .int .i64 e.m, .int .u8 e.by_, .int .i64 e.sm, .int .i64 e.sc, .string e.key, .string e.hi, .slice e.A (pv k).length e.vc] := by rw [← hV4]; exact World.rangeAt_setCells_apart rs y 2 _ (.inl (Nat.ne_of_lt nsy))
          replace rq : V4.rangeAt q 0 [.int .i64 9, .int .i64 e.an, .int .i64 e.tm, .int .i64 e.tc, .bool e.fd, .slice e.B e.bl e.bc, .slice e.P e.pl e.pc] := by rw [← hV4]; exact World.rangeAt_setCells_apart rq y 2 _ (.inl (Nat.ne_of_lt nqy))
          replace ls : s < V4.heap.size := by rw [← hV4, setCells_size]; exact ls
          replace lq : q < V4.heap.size := by rw [← hV4, setCells_size]; exact lq
          replace ly : y < V4.heap.size := by rw [← hV4, setCells_size]; exact ly
          rw [show V3.setCells y 2 _ = V4 from hV4]
          clear hV4 HB3
          have y8 : V4.cell? ⟨y, 8, none⟩ = some (.bool true) := ry 8 _ rfl
          have s0 : V4.cell? ⟨s, 0, none⟩ = some (.int .i64 2) := rs 0 _ rfl
          obtain ⟨A2, hA2⟩ : ∃ A : Option Addr, A = none := ⟨_, rfl⟩
          obtain ⟨c2, hc2⟩ : ∃ c : Nat, c = 0 := ⟨_, rfl⟩
          have HBZ : Hid (ByL V4 A2 [] ∧ (∀ ad, A2 = some ad → wr.heap.size ≤ ad.block ∧ ad.block < V4.heap.size) ∧ (A2 = none → ([] : List Int).length = 0)) := Lib.hid ⟨ByL.nil _ _, fun ad ha => by (rw [hA2] at ha; cases ha), fun _ => rfl⟩
          obtain ⟨C, hC⟩ : ∃ C : List Value, C = (Wq.mk ⟨e.who, e.key, 0, 0, e.nd, [], true, 0, true⟩ A2 c2).cs := ⟨_, rfl⟩
          have hC9 : C.length = 9 := by rw [hC]; rfl
          have hrg4 : V4.rangeAt y 0 C := by
            rw [hC]
            subst hA2 hc2
            exact ry
          have hC1 : ∀ u ∈ C, u.oneCell' = true := by rw [hC]; simp [Wq.cs, Value.oneCell']
          have HNEWS : Hid _ := Lib.hid (World.news_of_block (cs := C.toArray) (t := 38) (fr := (0, 0)) (heap_alloc_new V4 (.cells C.toArray 38)))
          have HBV : Hid (Below wr.heap.size wr V4) := HB4
          have HW4 := Lib.hid (HWS.out.below HBV.out)
          have hrow := World.ownsRow.alloc HW4.out.row (.cells C.toArray 38)
          have kA : Below V4.heap.size V4 (V4.alloc (.cells C.toArray 38)) := (Below.refl _ _).alloc (Nat.le_refl _) _
          have hw4 : w.heap.size ≤ V4.heap.size := Nat.le_trans HB.out.size HBV.out.size
          have HKA := Lib.hid kA
          have HCC := Lib.hid hC
          clear kA hA2 hc2 rs rq ls lq ty nsy nqy ry hC
          go_upto_region 14 with fail
          refine wp_region_lit ?_
          refine wpList_plain rfl (fun KK hKK => ?_)
          go_simp
          refine hKK _ _ ?_
          refine wpList_load_mid rfl 38 (.tmp 7) rfl y 0 rfl C _ hrg4 Try.underlying38 rfl (by rw [hC9]; kernel_rfl) ?_
          refine wpList_buildSlice rfl 26 38 1 _ rfl C.toArray i0 _ Try.underlying26 hi0 hz0 (by rw [hz1]; omega) (by rw [hz1]; omega) (by rw [Array.toList_map]; exact fill9 i0 hz1 (.agg #[.int .i64 0, .string ⟨#[]⟩, .int .i64 0, .int .i64 0, .int .i64 0, .slice none 0 0, .bool false, .int .i64 0, .bool false]) C hC9) ?_
          refine wpList_append_lies _ rfl (.tmp 80) (.tmp 82) _ rfl w.heap.size 38 i0 _ 9 96 Try.underlying26 hi0 hz0 hz1 hz2 rfl (by decide) (.slice Av L'.length cv) L'.length (rowQ L') rfl hrow ⟨V4.heap.size, 0, none⟩ 1 1 C rfl (by rw [hC9]) HNEWS.out hC1 (by omega) (by unfold maxLen; omega) (by omega) (by simp; omega) _ rfl ?_
          intro g2 cap2 W5 hown2 hg2 hat2 hlt2
          refine wpList_plain rfl (fun KK hKK => ?_)
          go_simp
          refine hKK _ _ ?_
          refine wpList_nil ?_
          rw [HCC.out] at hown2
          have hlw : ∀ j, (Value.slice Av L'.length cv).ownBlock = some j → w.heap.size ≤ j ∧ j < wr.heap.size := fun j hj => World.ownsRow.lt HWS.out.row j hj
          have HAPP := Lib.hid (Wr5.app (x := Wq.mk ⟨e.who, e.key, 0, 0, e.nd, [], true, 0, true⟩ A2 c2) (HW4.out.below HKA.out) (HBZ.out.1.below HKA.out) HBZ.out.2.2 (fun ad ha => ⟨Nat.le_trans HB.out.size (HBZ.out.2.1 ad ha).1, Nat.lt_of_lt_of_le (HBZ.out.2.1 ad ha).2 HKA.out.size, fun q => by have := (hlw _ q).2; have := (HBZ.out.2.1 ad ha).1; omega⟩) hg2 hat2 hown2)
          have HBF := Lib.hid (((HB.out.trans (HBV.out.mono HB.out.size)).trans (HKA.out.mono hw4)).grown hg2 (by simp; omega) (fun j hj => (hlw j hj).1))
          have HMP : Hid ((L' ++ [Wq.mk ⟨e.who, e.key, 0, 0, e.nd, [], true, 0, true⟩ A2 c2]).map Wq.m = wsN L pv (k + 1)) := Lib.hid (by rw [List.map_append, HMAP.out, wsN_step HE.out]; simp [wOf, HKD.out.1, HKD.out.2])
          clear hown2 hg2 hat2 hlt2 hrow HKA HNEWS hlw hrg4 hC1 hC9 HCC
          go_wp2_with fail
          go_roundw
          case rel => exact ⟨k + 1, L' ++ [Wq.mk ⟨e.who, e.key, 0, 0, e.nd, [], true, 0, true⟩ A2 c2], by have := H1.out; omega, by simp, by simpa using HAPP.out, HMP.out, by simp; omega, HBF.out⟩
          all_goals ((try simp only [intOf]); have := H1.out; omega)
      · have HMP : Hid (L'.map Wq.m = wsN L pv (k + 1)) := Lib.hid (by rw [wsN_step HE.out, wOf_none hq5]; simpa using HMAP.out)
        clear hvl
        by_cases hkk : e.kd = 1 ∨ e.kd = 2
        · as_aux_lemma =>
          have e0 : (e.er != 0) = true := by simp; omega
          have e9 : (e.er != 9) = true := by simp; omega
          obtain ⟨b1, hb1⟩ : ∃ b, (e.kd != 1) = b := ⟨_, rfl⟩
          obtain ⟨b2, hb2⟩ : ∃ b, (e.kd != 2) = b := ⟨_, rfl⟩
          have hbb : (b1 && b2) = false := by rw [← hb1, ← hb2]; rcases hkk with h | h <;> simp [h]
          clear hkk hq5
          cases b1 <;> cases b2 <;> first | cases hbb | skip
          all_goals (try clear hbb)
          all_goals as_aux_lemma =>
          have s0 : wz.cell? ⟨s, 0, none⟩ = some (.int .i64 e.kd) := hs 0 _ rfl
          have q0 : wz.cell? ⟨q, 0, none⟩ = some (.int .i64 e.er) := hq 0 _ rfl
          have HW2 := Lib.hid (HWS.out.below HBC.out)
          have HB2 := Lib.hid (HB.out.trans (HBC.out.mono HB.out.size))
          clear hs hq ls lq hBw hwho
          go_wp2_with fail
          go_roundw
          case rel => exact ⟨k + 1, L', by have := H1.out; omega, by simp, HW2.out, HMP.out, by omega, HB2.out⟩
          all_goals ((try simp only [intOf]); have := H1.out; omega)
        · as_aux_lemma =>
          have b1 : (e.kd != 1) = true := by simp; omega
          have b2 : (e.kd != 2) = true := by simp; omega
          clear hkk hq5
          have s0 : wz.cell? ⟨s, 0, none⟩ = some (.int .i64 e.kd) := hs 0 _ rfl
          have q0 : wz.cell? ⟨q, 0, none⟩ = some (.int .i64 e.er) := hq 0 _ rfl
          have HW2 := Lib.hid (HWS.out.below HBC.out)
          have HB2 := Lib.hid (HB.out.trans (HBC.out.mono HB.out.size))
          clear hs hq ls lq hBw hwho
          go_wp2_with fail
          go_roundw
          case rel => exact ⟨k + 1, L', by have := H1.out; omega, by simp, HW2.out, HMP.out, by omega, HB2.out⟩
          all_goals ((try simp only [intOf]); have := H1.out; omega)
    · as_aux_lemma =>
      have t1 : decide ((k : Int) < (L.length : Int)) = false := by simp; omega
      obtain rfl : k = L.length := by omega
      clear hk h1
      go_wp2_with fail
      go_ret
      exact ⟨⟨_, L', rfl, HWS.out, HMAP.out⟩, HB.out⟩
end Go.Proofs.Ytdjhpajmbddffaa
