/- Stage 25: could of any Snap, of any Get (written by gen/cog25.py out of XCo25). -/
import Derived.Test.YtdjhpajmbddffaaCo25
import Derived.Test.YtdjhpajmbddffaaRe25
set_option linter.unusedSimpArgs false
set_option linter.unusedVariables false
namespace Go.Proofs.Ytdjhpajmbddffaa
open Go.RowKit

/-- Could a Get be? -/
def getP (ws : List Wm) (sn : List Sn) (e : Ev) (p : List Int) : Bool := !(lkS e.nd e.n sn).isSome || readP (ws.filter (fun m => decide (m.key = e.key))) e.key ((lkS e.nd e.n sn).getD (0, 0)).1 ((lkS e.nd e.n sn).getD (0, 0)).2 e.fd p
set_option maxRecDepth 100000 in
set_option maxHeartbeats 16000000 in
theorem could_snap_any (kb r mc : Nat) (sn : List Sn) (e : Ev) (w : World) (hkd : e.kd = 3) (hk2 : w.cell? ⟨kb, 2, none⟩ = some (.map (some r))) (hlt : kb < w.heap.size) (hm : w.heap[r]? = some (.map (sn.map Sn.e).toArray mc)) (hne : kb ≠ r) :
    Calls Try.prog 17 #[.pointer (some ⟨kb, 0, none⟩), .agg e.cs.toArray] w fun e' w' => e' = .returned (.bool (decide (0 ≤ cmp2 e.tm e.tc e.sm e.sc))) ∧ But (fun k => k = r) w w' ∧ w'.heap[r]? = some (.map ((updS e.nd e.an e.tm e.tc sn mc).1.map Sn.e).toArray (updS e.nd e.an e.tm e.tc sn mc).2) := by
  have hr : r < w.heap.size := (Array.getElem?_eq_some_iff.1 hm).1
  have HBX := Lib.hid (range_new w e.cs 47)
  obtain ⟨X, hX⟩ : ∃ X : Array Value, e.cs.toArray = X := ⟨_, rfl⟩
  rw [hX] at HBX ⊢
  go_enter Try.func17, Try.ntmps17
  go_upto_region 1 with fail
  go_cut [5, 6] from 11 to 14 (fun p5 p6 wx => ∃ s q, p5 = .pointer (some ⟨s, 0, none⟩) ∧ p6 = .pointer (some ⟨q, 0, none⟩) ∧ wx.rangeAt s 0 e.st ∧ wx.rangeAt q 0 e.an_ ∧ s < wx.heap.size ∧ q < wx.heap.size ∧ w.heap.size ≤ s ∧ w.heap.size ≤ q ∧ Below w.heap.size w wx)
  case first =>
    obtain ⟨V0, hV0⟩ : ∃ V, w.alloc (.cells X 47) = V := ⟨_, rfl⟩
    have HB0 : Hid (Below w.heap.size w V0) := Lib.hid (by rw [← hV0]; exact (Below.refl _ _).alloc (Nat.le_refl _) _)
    have r10 : V0.rangeAt w.heap.size 1 e.st := by rw [← hV0]; exact range_part HBX.out 1 10
    have r20 : V0.rangeAt w.heap.size 11 e.an_ := by rw [← hV0]; exact range_part HBX.out 11 7
    have lb0 : w.heap.size < V0.heap.size := by rw [← hV0]; simp
    rw [hV0]
    clear hV0 HBX
    refine wp_region_held_drew (S := fun w' => w'.rangeAt w.heap.size 1 e.st ∧ w'.rangeAt w.heap.size 11 e.an_) (by kernel_rfl) ?_ (fun hHeld => ?_)
    · exact ⟨r10, r20⟩
    have k1 : Below V0.heap.size V0 V0.drew := (Below.refl _ _).drew
    obtain ⟨V1, hV1⟩ : ∃ V1, V0.drew = V1 := ⟨_, rfl⟩
    rw [hV1] at k1 hHeld ⊢
    clear hV1
    have r11 := range_below r10 k1 lb0
    have r21 := range_below r20 k1 lb0
    have lb1 := Nat.lt_of_lt_of_le lb0 k1.size
    have HB1 := Lib.hid (HB0.out.trans (k1.mono HB0.out.size))
    clear k1 HB0 r10 r20
    refine tk9 0 ?_
    refine tk9 1 (hy := yieldsIf_load_mid (by rfl) 41 (.tmp 11) rfl w.heap.size 1 rfl e.st _ (fun w' hw => hw.1) Try.underlying41 rfl st_info) ?_
    refine tk9 2 ?_
    refine tk9 3 (hy := yieldsIf_load_mid (by rfl) 45 (.tmp 13) rfl w.heap.size 11 rfl e.an_ _ (fun w' hw => hw.2) Try.underlying45 rfl an_info) ?_
    clear lb0
    refine wpAnyH_ready (rs := [4, 5]) (by kernel_rfl) (by simp) ?_
    refine AllReadyH.cons rfl (fun K hK => ?_) (AllReadyH.cons rfl (fun K hK => ?_) (AllReadyH.nil))
    · go_simp
      (try dsimp only)
      obtain ⟨V2, hV2⟩ : ∃ V, V1.alloc (.cells #[.int .i64 0, .int .i64 0, .int .i64 0, .int .i64 0, .int .u8 0, .int .i64 0, .int .i64 0, .string ⟨#[]⟩, .string ⟨#[]⟩, .slice none 0 0] 41) = V := ⟨_, rfl⟩
      have k2 : Below V1.heap.size V1 V2 := by rw [← hV2]; exact (Below.refl _ _).alloc (Nat.le_refl _) _
      have fs2 : V2.there V1.heap.size 0 10 := by rw [← hV2]; exact there_new V1 _ _
      have ls2 : V1.heap.size < V2.heap.size := by rw [← hV2]; simp
      rw [hV2]
      clear hV2
      have r12 := range_below r11 k2 lb1
      have r22 := range_below r21 k2 lb1
      have lb2 := Nat.lt_of_lt_of_le lb1 k2.size
      have HB2 := Lib.hid (HB1.out.trans (k2.mono HB1.out.size))
      have ws : w.heap.size ≤ V1.heap.size := HB1.out.size
      have xs : w.heap.size < V1.heap.size := lb1
      refine hK.out _ _ ?_ (fun hHeld => ?_)
      · exact ⟨r12, r22⟩
      clear hK K k2 r11 r21
      (try simp only [Act.put, List.setIfInBounds_toArray, List.set_cons_zero, List.set_cons_succ, List.getElem_toArray, List.getElem_cons_succ, List.getElem_cons_zero])
      generalize V1.heap.size = s at *
      refine wpAnyH_ready (rs := [5]) (by kernel_rfl) (by simp) ?_
      refine AllReadyH.cons rfl (fun K hK => ?_) (AllReadyH.nil)
      go_simp
      (try dsimp only)
      obtain ⟨V3, hV3⟩ : ∃ V, V2.alloc (.cells #[.int .i64 0, .int .i64 0, .int .i64 0, .int .i64 0, .bool false, .slice none 0 0, .slice none 0 0] 45) = V := ⟨_, rfl⟩
      have k3 : Below V2.heap.size V2 V3 := by rw [← hV3]; exact (Below.refl _ _).alloc (Nat.le_refl _) _
      have fq3 : V3.there V2.heap.size 0 7 := by rw [← hV3]; exact there_new V2 _ _
      have lq3 : V2.heap.size < V3.heap.size := by rw [← hV3]; simp
      rw [hV3]
      clear hV3
      have fs3 := there_below fs2 k3 ls2
      have ls3 := Nat.lt_of_lt_of_le ls2 k3.size
      have hn3 : s ≠ V2.heap.size := Nat.ne_of_lt ls2
      have r13 := range_below r12 k3 lb2
      have r23 := range_below r22 k3 lb2
      have lw.heap.size := Nat.lt_of_lt_of_le lb2 k3.size
      have HB3 := Lib.hid (HB2.out.trans (k3.mono HB2.out.size))
      have wq : w.heap.size ≤ V2.heap.size := HB2.out.size
      have xq : w.heap.size < V2.heap.size := lb2
      refine hK.out _ _ ?_ (fun hHeld => ?_)
      · exact ⟨r13, r23⟩
      clear hK K k3 r12 r22
      (try simp only [Act.put, List.setIfInBounds_toArray, List.set_cons_zero, List.set_cons_succ, List.getElem_toArray, List.getElem_cons_succ, List.getElem_cons_zero])
      generalize V2.heap.size = q at *
      refine wpAnyH_ready (rs := [6]) (by kernel_rfl) (by simp) ?_
      refine AllReadyH.cons rfl (fun K hK => ?_) (AllReadyH.nil)
      rw [if_pos (by rfl)]
      refine wp_store_mid 41 (.tmp 5) (.tmp 12) rfl s 0 e.st.toArray rfl rfl fs3 st_info e.st_one ?_
      obtain ⟨V4, hV4⟩ : ∃ V, V3.setCells s 0 e.st.toArray.toList = V := ⟨_, rfl⟩
      have HB4 : Hid (Below w.heap.size w V4) := Lib.hid (by rw [← hV4]; exact below_setCells _ _ ws _ _ _ _ HB3.out)
      have fs4 : V4.rangeAt s 0 e.st := by rw [← hV4]; exact World.rangeAt_setCells_same V3 s 0 e.st fs3
      have ls4 : s < V4.heap.size := by rw [← hV4, setCells_size]; exact ls3
      have lb4 : w.heap.size < V4.heap.size := by rw [← hV4, setCells_size]; exact lw.heap.size
      have r14 : V4.rangeAt w.heap.size 1 e.st := by rw [← hV4]; exact World.rangeAt_setCells_apart r13 s 0 _ (.inl (Nat.ne_of_lt xs))
      have r24 : V4.rangeAt w.heap.size 11 e.an_ := by rw [← hV4]; exact World.rangeAt_setCells_apart r23 s 0 _ (.inl (Nat.ne_of_lt xs))
      have fq4 : V4.there q 0 7 := by rw [← hV4]; exact World.there_setCells fq3 s 0 _
      have lq4 : q < V4.heap.size := by rw [← hV4, setCells_size]; exact lq3
      rw [hV4]
      refine hK.out _ _ ?_ (fun hHeld => ?_)
      · exact ⟨r14, r24⟩
      clear hK K hV4 r13 r23
      (try simp only [Act.put, List.setIfInBounds_toArray, List.set_cons_zero, List.set_cons_succ, List.getElem_toArray, List.getElem_cons_succ, List.getElem_cons_zero])
      refine wpAnyH_ready (rs := [7]) (by kernel_rfl) (by simp) ?_
      refine AllReadyH.cons rfl (fun K hK => ?_) (AllReadyH.nil)
      rw [if_pos (by rfl)]
      refine wp_store_mid 45 (.tmp 6) (.tmp 14) rfl q 0 e.an_.toArray rfl rfl fq4 an_info e.an_one ?_
      obtain ⟨V5, hV5⟩ : ∃ V, V4.setCells q 0 e.an_.toArray.toList = V := ⟨_, rfl⟩
      have HB5 : Hid (Below w.heap.size w V5) := Lib.hid (by rw [← hV5]; exact below_setCells _ _ wq _ _ _ _ HB4.out)
      have fq5 : V5.rangeAt q 0 e.an_ := by rw [← hV5]; exact World.rangeAt_setCells_same V4 q 0 e.an_ fq4
      have lq5 : q < V5.heap.size := by rw [← hV5, setCells_size]; exact lq4
      have lb5 : w.heap.size < V5.heap.size := by rw [← hV5, setCells_size]; exact lb4
      have r15 : V5.rangeAt w.heap.size 1 e.st := by rw [← hV5]; exact World.rangeAt_setCells_apart r14 q 0 _ (.inl (Nat.ne_of_lt xq))
      have r25 : V5.rangeAt w.heap.size 11 e.an_ := by rw [← hV5]; exact World.rangeAt_setCells_apart r24 q 0 _ (.inl (Nat.ne_of_lt xq))
      have fs5 : V5.rangeAt s 0 e.st := by rw [← hV5]; exact World.rangeAt_setCells_apart fs4 q 0 _ (.inl (by omega))
      have ls5 : s < V5.heap.size := by rw [← hV5, setCells_size]; exact ls4
      rw [hV5]
      refine hK.out _ _ ?_ (fun hHeld => ?_)
      · exact ⟨r15, r25⟩
      clear hK K hV5 r14 r24
      (try simp only [Act.put, List.setIfInBounds_toArray, List.set_cons_zero, List.set_cons_succ, List.getElem_toArray, List.getElem_cons_succ, List.getElem_cons_zero])
      refine wpAnyH_done (by kernel_rfl) ?_ _
      go_wp2_with fail
      go_meet
      exact ⟨s, q, rfl, rfl, fs5, fq5, ls5, lq5, ws, wq, HB5.out⟩
    · go_simp
      (try dsimp only)
      obtain ⟨V2, hV2⟩ : ∃ V, V1.alloc (.cells #[.int .i64 0, .int .i64 0, .int .i64 0, .int .i64 0, .bool false, .slice none 0 0, .slice none 0 0] 45) = V := ⟨_, rfl⟩
      have k2 : Below V1.heap.size V1 V2 := by rw [← hV2]; exact (Below.refl _ _).alloc (Nat.le_refl _) _
      have fq2 : V2.there V1.heap.size 0 7 := by rw [← hV2]; exact there_new V1 _ _
      have lq2 : V1.heap.size < V2.heap.size := by rw [← hV2]; simp
      rw [hV2]
      clear hV2
      have r12 := range_below r11 k2 lb1
      have r22 := range_below r21 k2 lb1
      have lb2 := Nat.lt_of_lt_of_le lb1 k2.size
      have HB2 := Lib.hid (HB1.out.trans (k2.mono HB1.out.size))
      have wq : w.heap.size ≤ V1.heap.size := HB1.out.size
      have xq : w.heap.size < V1.heap.size := lb1
      refine hK.out _ _ ?_ (fun hHeld => ?_)
      · exact ⟨r12, r22⟩
      clear hK K k2 r11 r21
      (try simp only [Act.put, List.setIfInBounds_toArray, List.set_cons_zero, List.set_cons_succ, List.getElem_toArray, List.getElem_cons_succ, List.getElem_cons_zero])
      generalize V1.heap.size = q at *
      refine wpAnyH_ready (rs := [4]) (by kernel_rfl) (by simp) ?_
      refine AllReadyH.cons rfl (fun K hK => ?_) (AllReadyH.nil)
      go_simp
      (try dsimp only)
      obtain ⟨V3, hV3⟩ : ∃ V, V2.alloc (.cells #[.int .i64 0, .int .i64 0, .int .i64 0, .int .i64 0, .int .u8 0, .int .i64 0, .int .i64 0, .string ⟨#[]⟩, .string ⟨#[]⟩, .slice none 0 0] 41) = V := ⟨_, rfl⟩
      have k3 : Below V2.heap.size V2 V3 := by rw [← hV3]; exact (Below.refl _ _).alloc (Nat.le_refl _) _
      have fs3 : V3.there V2.heap.size 0 10 := by rw [← hV3]; exact there_new V2 _ _
      have ls3 : V2.heap.size < V3.heap.size := by rw [← hV3]; simp
      rw [hV3]
      clear hV3
      have fq3 := there_below fq2 k3 lq2
      have lq3 := Nat.lt_of_lt_of_le lq2 k3.size
      have hn3 : q ≠ V2.heap.size := Nat.ne_of_lt lq2
      have r13 := range_below r12 k3 lb2
      have r23 := range_below r22 k3 lb2
      have lw.heap.size := Nat.lt_of_lt_of_le lb2 k3.size
      have HB3 := Lib.hid (HB2.out.trans (k3.mono HB2.out.size))
      have ws : w.heap.size ≤ V2.heap.size := HB2.out.size
      have xs : w.heap.size < V2.heap.size := lb2
      refine hK.out _ _ ?_ (fun hHeld => ?_)
      · exact ⟨r13, r23⟩
      clear hK K k3 r12 r22
      (try simp only [Act.put, List.setIfInBounds_toArray, List.set_cons_zero, List.set_cons_succ, List.getElem_toArray, List.getElem_cons_succ, List.getElem_cons_zero])
      generalize V2.heap.size = s at *
      refine wpAnyH_ready (rs := [6]) (by kernel_rfl) (by simp) ?_
      refine AllReadyH.cons rfl (fun K hK => ?_) (AllReadyH.nil)
      rw [if_pos (by rfl)]
      refine wp_store_mid 41 (.tmp 5) (.tmp 12) rfl s 0 e.st.toArray rfl rfl fs3 st_info e.st_one ?_
      obtain ⟨V4, hV4⟩ : ∃ V, V3.setCells s 0 e.st.toArray.toList = V := ⟨_, rfl⟩
      have HB4 : Hid (Below w.heap.size w V4) := Lib.hid (by rw [← hV4]; exact below_setCells _ _ ws _ _ _ _ HB3.out)
      have fs4 : V4.rangeAt s 0 e.st := by rw [← hV4]; exact World.rangeAt_setCells_same V3 s 0 e.st fs3
      have ls4 : s < V4.heap.size := by rw [← hV4, setCells_size]; exact ls3
      have lb4 : w.heap.size < V4.heap.size := by rw [← hV4, setCells_size]; exact lw.heap.size
      have r14 : V4.rangeAt w.heap.size 1 e.st := by rw [← hV4]; exact World.rangeAt_setCells_apart r13 s 0 _ (.inl (Nat.ne_of_lt xs))
      have r24 : V4.rangeAt w.heap.size 11 e.an_ := by rw [← hV4]; exact World.rangeAt_setCells_apart r23 s 0 _ (.inl (Nat.ne_of_lt xs))
      have fq4 : V4.there q 0 7 := by rw [← hV4]; exact World.there_setCells fq3 s 0 _
      have lq4 : q < V4.heap.size := by rw [← hV4, setCells_size]; exact lq3
      rw [hV4]
      refine hK.out _ _ ?_ (fun hHeld => ?_)
      · exact ⟨r14, r24⟩
      clear hK K hV4 r13 r23
      (try simp only [Act.put, List.setIfInBounds_toArray, List.set_cons_zero, List.set_cons_succ, List.getElem_toArray, List.getElem_cons_succ, List.getElem_cons_zero])
      refine wpAnyH_ready (rs := [7]) (by kernel_rfl) (by simp) ?_
      refine AllReadyH.cons rfl (fun K hK => ?_) (AllReadyH.nil)
      rw [if_pos (by rfl)]
      refine wp_store_mid 45 (.tmp 6) (.tmp 14) rfl q 0 e.an_.toArray rfl rfl fq4 an_info e.an_one ?_
      obtain ⟨V5, hV5⟩ : ∃ V, V4.setCells q 0 e.an_.toArray.toList = V := ⟨_, rfl⟩
      have HB5 : Hid (Below w.heap.size w V5) := Lib.hid (by rw [← hV5]; exact below_setCells _ _ wq _ _ _ _ HB4.out)
      have fq5 : V5.rangeAt q 0 e.an_ := by rw [← hV5]; exact World.rangeAt_setCells_same V4 q 0 e.an_ fq4
      have lq5 : q < V5.heap.size := by rw [← hV5, setCells_size]; exact lq4
      have lb5 : w.heap.size < V5.heap.size := by rw [← hV5, setCells_size]; exact lb4
      have r15 : V5.rangeAt w.heap.size 1 e.st := by rw [← hV5]; exact World.rangeAt_setCells_apart r14 q 0 _ (.inl (Nat.ne_of_lt xq))
      have r25 : V5.rangeAt w.heap.size 11 e.an_ := by rw [← hV5]; exact World.rangeAt_setCells_apart r24 q 0 _ (.inl (Nat.ne_of_lt xq))
      have fs5 : V5.rangeAt s 0 e.st := by rw [← hV5]; exact World.rangeAt_setCells_apart fs4 q 0 _ (.inl (by omega))
      have ls5 : s < V5.heap.size := by rw [← hV5, setCells_size]; exact ls4
      rw [hV5]
      refine hK.out _ _ ?_ (fun hHeld => ?_)
      · exact ⟨r15, r25⟩
      clear hK K hV5 r14 r24
      (try simp only [Act.put, List.setIfInBounds_toArray, List.set_cons_zero, List.set_cons_succ, List.getElem_toArray, List.getElem_cons_succ, List.getElem_cons_zero])
      refine wpAnyH_done (by kernel_rfl) ?_ _
      go_wp2_with fail
      go_meet
      exact ⟨s, q, rfl, rfl, fs5, fq5, ls5, lq5, ws, wq, HB5.out⟩
  case rest =>
  obtain ⟨s, q, rfl, rfl, hs, hq, hls, hlq, hws, hwq, hb⟩ := hcut
  have HB := Lib.hid hb
  have HC := Lib.hid (fun W : World => hlc_compare e.tm e.tc e.sm e.sc W)
  have s0 : wc.cell? ⟨s, 0, none⟩ = some (.int .i64 3) := by rw [← hkd]; exact hs 0 _ rfl
  have s1 : wc.cell? ⟨s, 1, none⟩ = some (.int .i64 e.nd) := hs 1 _ rfl
  have s5 : wc.cell? ⟨s, 5, none⟩ = some (.int .i64 e.sm) := hs 5 _ rfl
  have s6 : wc.cell? ⟨s, 6, none⟩ = some (.int .i64 e.sc) := hs 6 _ rfl
  have q1 : wc.cell? ⟨q, 1, none⟩ = some (.int .i64 e.an) := hq 1 _ rfl
  have q2 : wc.cell? ⟨q, 2, none⟩ = some (.int .i64 e.tm) := hq 2 _ rfl
  have q3 : wc.cell? ⟨q, 3, none⟩ = some (.int .i64 e.tc) := hq 3 _ rfl
  replace hk2 := (hb.cell (p := ⟨kb, 2, none⟩) hlt).trans hk2
  replace hm := map_but (S := fun _ => False) hm (But.of_below hb) (fun h => h)
  have N := Lib.hid (And.intro hne (And.intro (show s ≠ r by omega) (show q ≠ r by omega)))
  have LL := Lib.hid (And.intro (Nat.lt_of_lt_of_le hlt hb.size) (And.intro hls hlq))
  have hrc : Hid (r < wc.heap.size) := Lib.hid (Nat.lt_of_lt_of_le hr hb.size)
  clear hs hq hb hls hlq hws hwq hne hlt hr HBX hX
  go_upto_region 7 with fail
  refine wp_region_held_drew (S := fun w' => w'.cell? ⟨kb, 2, none⟩ = some (.map (some r)) ∧ w'.cell? ⟨s, 1, none⟩ = some (.int .i64 e.nd) ∧ w'.cell? ⟨q, 1, none⟩ = some (.int .i64 e.an) ∧ w'.cell? ⟨q, 2, none⟩ = some (.int .i64 e.tm) ∧ w'.cell? ⟨q, 3, none⟩ = some (.int .i64 e.tc)) (by kernel_rfl) ?_ (fun hHeld => ?_)
  · exact ⟨hk2, s1, q1, q2, q3⟩
  have k1 : Below wc.heap.size wc wc.drew := (Below.refl _ _).drew
  obtain ⟨V1, hV1⟩ : ∃ V1, wc.drew = V1 := ⟨_, rfl⟩
  rw [hV1] at k1 hHeld ⊢
  clear hV1
  have HB1 := Lib.hid (HB.out.trans (k1.mono HB.out.size))
  obtain ⟨hk2', s1', q1', q2', q3'⟩ := hHeld
  have hm' := map_but (S := fun _ => False) hm (But.of_below k1) (fun h => h)
  have hHeld := (show (fun w' => w'.cell? ⟨kb, 2, none⟩ = some (.map (some r)) ∧ w'.cell? ⟨s, 1, none⟩ = some (.int .i64 e.nd) ∧ w'.cell? ⟨q, 1, none⟩ = some (.int .i64 e.an) ∧ w'.cell? ⟨q, 2, none⟩ = some (.int .i64 e.tm) ∧ w'.cell? ⟨q, 3, none⟩ = some (.int .i64 e.tc)) V1 from ⟨hk2', s1', q1', q2', q3'⟩)
  have s5' : V1.cell? ⟨s, 5, none⟩ = some (.int .i64 e.sm) := (k1.cell (p := ⟨s, 5, none⟩) LL.out.2.1).trans s5
  have s6' : V1.cell? ⟨s, 6, none⟩ = some (.int .i64 e.sc) := (k1.cell (p := ⟨s, 6, none⟩) LL.out.2.1).trans s6
  have L1 := Lib.hid (And.intro (Nat.lt_of_lt_of_le LL.out.1 k1.size) (And.intro (Nat.lt_of_lt_of_le LL.out.2.1 k1.size) (And.intro (Nat.lt_of_lt_of_le LL.out.2.2 k1.size) (Nat.lt_of_lt_of_le hrc.out k1.size))))
  clear k1 hk2 hm s0 s1 q1 q2 q3 s5 s6 HB
  refine tk9 0 ?_
  refine tk9 1 ?_
  refine tk9 2 ?_
  refine tk9 3 ?_
  refine tk9 4 ?_
  refine tk9 5 ?_
  refine tk9 6 ?_
  refine tk9 7 ?_
  refine tk9 8 ?_
  refine tk9 9 ?_
  refine tk9 10 ?_
  refine wpAnyH_ready (rs := [11]) (by kernel_rfl) (by simp) ?_
  refine AllReadyH.cons rfl (fun K hK => ?_) (AllReadyH.nil)
  rw [if_pos (by rfl)]
  refine wp_upd 63 (.tmp 31) (.tmp 36) (.tmp 38) rfl (.map (some r)) (.agg #[.int .i64 e.nd, .int .i64 e.an]) (.agg #[.int .i64 e.tm, .int .i64 e.tc]) rfl rfl rfl (upd_sn V1 r mc e.nd e.an e.tm e.tc sn hm') ?_
  obtain ⟨V2, hV2⟩ : ∃ V2, setMap V1 r (.map ((updS e.nd e.an e.tm e.tc sn mc).1.map Sn.e).toArray (updS e.nd e.an e.tm e.tc sn mc).2) = V2 := ⟨_, rfl⟩
  have k2 : But (fun k => k = r) V1 V2 := by rw [← hV2]; exact setMap_but _ _ _
  have hm2 : V2.heap[r]? = some (.map ((updS e.nd e.an e.tm e.tc sn mc).1.map Sn.e).toArray (updS e.nd e.an e.tm e.tc sn mc).2) := by rw [← hV2]; exact setMap_at _ L1.out.2.2.2
  rw [hV2]
  clear hV2
  refine hK.out _ _ ?_ (fun hHeld => ?_)
  · exact ⟨(k2.cell kb 2 L1.out.1 N.out.1).trans hk2', (k2.cell s 1 L1.out.2.1 N.out.2.1).trans s1', (k2.cell q 1 L1.out.2.2.1 N.out.2.2).trans q1', (k2.cell q 2 L1.out.2.2.1 N.out.2.2).trans q2', (k2.cell q 3 L1.out.2.2.1 N.out.2.2).trans q3'⟩
  clear hK K
  (try simp only [Act.put, List.setIfInBounds_toArray, List.set_cons_zero, List.set_cons_succ, List.getElem_toArray, List.getElem_cons_succ, List.getElem_cons_zero])
  refine wpAnyH_done (by kernel_rfl) ?_ _
  have u5 := (k2.cell s 5 L1.out.2.1 N.out.2.1).trans s5'
  have u6 := (k2.cell s 6 L1.out.2.1 N.out.2.1).trans s6'
  have v2 := (k2.cell q 2 L1.out.2.2.1 N.out.2.2).trans q2'
  have v3 := (k2.cell q 3 L1.out.2.2.1 N.out.2.2).trans q3'
  have HM2 := Lib.hid hm2
  have HK2 : Hid (But (fun k => k = r) w V2) := Lib.hid ((But.of_below HB1.out).trans k2 (fun i _ h => h))
  have HR2 := Lib.hid (Nat.lt_of_lt_of_le L1.out.2.2.2 k2.size)
  clear k2 hm2 hk2' hm' s1' q1' q2' q3' s5' s6' hHeld
  go_wp2_with (go_at_call 20; refine (HC.out _).mono ?_; rintro e1 w1 ⟨rfl, hb1⟩)
  go_ret
  exact ⟨rfl, HK2.out.next hb1, map_but (S := fun _ => False) HM2.out (But.of_below hb1) (fun h => h)⟩
set_option maxRecDepth 100000 in
set_option maxHeartbeats 16000000 in
theorem could_get_any (kb r r2 mc mc2 : Nat) (l : List En) (ws : List Wm) (sn : List Sn) (p : List Int) (e : Ev) (w : World) (hkd : e.kd = 4) (hbl : e.bl = p.length)
    (hk2 : w.cell? ⟨kb, 2, none⟩ = some (.map (some r2))) (hm2 : w.heap[r2]? = some (.map (sn.map Sn.e).toArray mc2))
    (hk : w.cell? ⟨kb, 1, none⟩ = some (.map (some r))) (hlt : kb < w.heap.size) (hm : w.heap[r]? = some (.map (l.map En.e).toArray mc)) (h : MapOk w l ws) (hA : ByL w e.B p) (hp : isBy p) :
    Calls Try.prog 17 #[.pointer (some ⟨kb, 0, none⟩), .agg e.cs.toArray] w fun e' w' => e' = .returned (.bool (getP ws sn e p)) ∧ Below w.heap.size w w' := by
  obtain ⟨t1, ht1⟩ : ∃ z, ((lkS e.nd e.n sn).getD (0, 0)).1 = z := ⟨_, rfl⟩
  obtain ⟨t2, ht2⟩ : ∃ z, ((lkS e.nd e.n sn).getD (0, 0)).2 = z := ⟨_, rfl⟩
  obtain ⟨td, htd⟩ : ∃ z, (lkS e.nd e.n sn).isSome = z := ⟨_, rfl⟩
  have HLS := Lib.hid (fun (W : World) (hW : W.heap[r2]? = some (.map (sn.map Sn.e).toArray mc2)) => (look_sn W r2 mc2 e.nd e.n sn hW).trans (by rw [ht1, ht2, htd]))
  have HGP : Hid (getP ws sn e p = (!td || readP (ws.filter (fun m => decide (m.key = e.key))) e.key t1 t2 e.fd p)) := Lib.hid (by rw [← ht1, ← ht2, ← htd]; rfl)
  rw [HGP.out]
  clear ht1 ht2 htd HGP
  have HBX := Lib.hid (range_new w e.cs 47)
  obtain ⟨X, hX⟩ : ∃ X : Array Value, e.cs.toArray = X := ⟨_, rfl⟩
  rw [hX] at HBX ⊢
  go_enter Try.func17, Try.ntmps17
  go_upto_region 1 with fail
  go_cut [5, 6] from 11 to 14 (fun p5 p6 wx => ∃ s q, p5 = .pointer (some ⟨s, 0, none⟩) ∧ p6 = .pointer (some ⟨q, 0, none⟩) ∧ wx.rangeAt s 0 e.st ∧ wx.rangeAt q 0 e.an_ ∧ s < wx.heap.size ∧ q < wx.heap.size ∧ w.heap.size ≤ s ∧ w.heap.size ≤ q ∧ Below w.heap.size w wx)
  case first =>
    obtain ⟨V0, hV0⟩ : ∃ V, w.alloc (.cells X 47) = V := ⟨_, rfl⟩
    have HB0 : Hid (Below w.heap.size w V0) := Lib.hid (by rw [← hV0]; exact (Below.refl _ _).alloc (Nat.le_refl _) _)
    have r10 : V0.rangeAt w.heap.size 1 e.st := by rw [← hV0]; exact range_part HBX.out 1 10
    have r20 : V0.rangeAt w.heap.size 11 e.an_ := by rw [← hV0]; exact range_part HBX.out 11 7
    have lb0 : w.heap.size < V0.heap.size := by rw [← hV0]; simp
    rw [hV0]
    clear hV0 HBX
    refine wp_region_held_drew (S := fun w' => w'.rangeAt w.heap.size 1 e.st ∧ w'.rangeAt w.heap.size 11 e.an_) (by kernel_rfl) ?_ (fun hHeld => ?_)
    · exact ⟨r10, r20⟩
    have k1 : Below V0.heap.size V0 V0.drew := (Below.refl _ _).drew
    obtain ⟨V1, hV1⟩ : ∃ V1, V0.drew = V1 := ⟨_, rfl⟩
    rw [hV1] at k1 hHeld ⊢
    clear hV1
    have r11 := range_below r10 k1 lb0
    have r21 := range_below r20 k1 lb0
    have lb1 := Nat.lt_of_lt_of_le lb0 k1.size
    have HB1 := Lib.hid (HB0.out.trans (k1.mono HB0.out.size))
    clear k1 HB0 r10 r20
    refine tk9 0 ?_
    refine tk9 1 (hy := yieldsIf_load_mid (by rfl) 41 (.tmp 11) rfl w.heap.size 1 rfl e.st _ (fun w' hw => hw.1) Try.underlying41 rfl st_info) ?_
    refine tk9 2 ?_
    refine tk9 3 (hy := yieldsIf_load_mid (by rfl) 45 (.tmp 13) rfl w.heap.size 11 rfl e.an_ _ (fun w' hw => hw.2) Try.underlying45 rfl an_info) ?_
    clear lb0
    refine wpAnyH_ready (rs := [4, 5]) (by kernel_rfl) (by simp) ?_
    refine AllReadyH.cons rfl (fun K hK => ?_) (AllReadyH.cons rfl (fun K hK => ?_) (AllReadyH.nil))
    · go_simp
      (try dsimp only)
      obtain ⟨V2, hV2⟩ : ∃ V, V1.alloc (.cells #[.int .i64 0, .int .i64 0, .int .i64 0, .int .i64 0, .int .u8 0, .int .i64 0, .int .i64 0, .string ⟨#[]⟩, .string ⟨#[]⟩, .slice none 0 0] 41) = V := ⟨_, rfl⟩
      have k2 : Below V1.heap.size V1 V2 := by rw [← hV2]; exact (Below.refl _ _).alloc (Nat.le_refl _) _
      have fs2 : V2.there V1.heap.size 0 10 := by rw [← hV2]; exact there_new V1 _ _
      have ls2 : V1.heap.size < V2.heap.size := by rw [← hV2]; simp
      rw [hV2]
      clear hV2
      have r12 := range_below r11 k2 lb1
      have r22 := range_below r21 k2 lb1
      have lb2 := Nat.lt_of_lt_of_le lb1 k2.size
      have HB2 := Lib.hid (HB1.out.trans (k2.mono HB1.out.size))
      have ws : w.heap.size ≤ V1.heap.size := HB1.out.size
      have xs : w.heap.size < V1.heap.size := lb1
      refine hK.out _ _ ?_ (fun hHeld => ?_)
      · exact ⟨r12, r22⟩
      clear hK K k2 r11 r21
      (try simp only [Act.put, List.setIfInBounds_toArray, List.set_cons_zero, List.set_cons_succ, List.getElem_toArray, List.getElem_cons_succ, List.getElem_cons_zero])
      generalize V1.heap.size = s at *
      refine wpAnyH_ready (rs := [5]) (by kernel_rfl) (by simp) ?_
      refine AllReadyH.cons rfl (fun K hK => ?_) (AllReadyH.nil)
      go_simp
      (try dsimp only)
      obtain ⟨V3, hV3⟩ : ∃ V, V2.alloc (.cells #[.int .i64 0, .int .i64 0, .int .i64 0, .int .i64 0, .bool false, .slice none 0 0, .slice none 0 0] 45) = V := ⟨_, rfl⟩
      have k3 : Below V2.heap.size V2 V3 := by rw [← hV3]; exact (Below.refl _ _).alloc (Nat.le_refl _) _
      have fq3 : V3.there V2.heap.size 0 7 := by rw [← hV3]; exact there_new V2 _ _
      have lq3 : V2.heap.size < V3.heap.size := by rw [← hV3]; simp
      rw [hV3]
      clear hV3
      have fs3 := there_below fs2 k3 ls2
      have ls3 := Nat.lt_of_lt_of_le ls2 k3.size
      have hn3 : s ≠ V2.heap.size := Nat.ne_of_lt ls2
      have r13 := range_below r12 k3 lb2
      have r23 := range_below r22 k3 lb2
      have lw.heap.size := Nat.lt_of_lt_of_le lb2 k3.size
      have HB3 := Lib.hid (HB2.out.trans (k3.mono HB2.out.size))
      have wq : w.heap.size ≤ V2.heap.size := HB2.out.size
      have xq : w.heap.size < V2.heap.size := lb2
      refine hK.out _ _ ?_ (fun hHeld => ?_)
      · exact ⟨r13, r23⟩
      clear hK K k3 r12 r22
      (try simp only [Act.put, List.setIfInBounds_toArray, List.set_cons_zero, List.set_cons_succ, List.getElem_toArray, List.getElem_cons_succ, List.getElem_cons_zero])
      generalize V2.heap.size = q at *
      refine wpAnyH_ready (rs := [6]) (by kernel_rfl) (by simp) ?_
      refine AllReadyH.cons rfl (fun K hK => ?_) (AllReadyH.nil)
      rw [if_pos (by rfl)]
      refine wp_store_mid 41 (.tmp 5) (.tmp 12) rfl s 0 e.st.toArray rfl rfl fs3 st_info e.st_one ?_
      obtain ⟨V4, hV4⟩ : ∃ V, V3.setCells s 0 e.st.toArray.toList = V := ⟨_, rfl⟩
      have HB4 : Hid (Below w.heap.size w V4) := Lib.hid (by rw [← hV4]; exact below_setCells _ _ ws _ _ _ _ HB3.out)
      have fs4 : V4.rangeAt s 0 e.st := by rw [← hV4]; exact World.rangeAt_setCells_same V3 s 0 e.st fs3
      have ls4 : s < V4.heap.size := by rw [← hV4, setCells_size]; exact ls3
      have lb4 : w.heap.size < V4.heap.size := by rw [← hV4, setCells_size]; exact lw.heap.size
      have r14 : V4.rangeAt w.heap.size 1 e.st := by rw [← hV4]; exact World.rangeAt_setCells_apart r13 s 0 _ (.inl (Nat.ne_of_lt xs))
      have r24 : V4.rangeAt w.heap.size 11 e.an_ := by rw [← hV4]; exact World.rangeAt_setCells_apart r23 s 0 _ (.inl (Nat.ne_of_lt xs))
      have fq4 : V4.there q 0 7 := by rw [← hV4]; exact World.there_setCells fq3 s 0 _
      have lq4 : q < V4.heap.size := by rw [← hV4, setCells_size]; exact lq3
      rw [hV4]
      refine hK.out _ _ ?_ (fun hHeld => ?_)
      · exact ⟨r14, r24⟩
      clear hK K hV4 r13 r23
      (try simp only [Act.put, List.setIfInBounds_toArray, List.set_cons_zero, List.set_cons_succ, List.getElem_toArray, List.getElem_cons_succ, List.getElem_cons_zero])
      refine wpAnyH_ready (rs := [7]) (by kernel_rfl) (by simp) ?_
      refine AllReadyH.cons rfl (fun K hK => ?_) (AllReadyH.nil)
      rw [if_pos (by rfl)]
      refine wp_store_mid 45 (.tmp 6) (.tmp 14) rfl q 0 e.an_.toArray rfl rfl fq4 an_info e.an_one ?_
      obtain ⟨V5, hV5⟩ : ∃ V, V4.setCells q 0 e.an_.toArray.toList = V := ⟨_, rfl⟩
      have HB5 : Hid (Below w.heap.size w V5) := Lib.hid (by rw [← hV5]; exact below_setCells _ _ wq _ _ _ _ HB4.out)
      have fq5 : V5.rangeAt q 0 e.an_ := by rw [← hV5]; exact World.rangeAt_setCells_same V4 q 0 e.an_ fq4
      have lq5 : q < V5.heap.size := by rw [← hV5, setCells_size]; exact lq4
      have lb5 : w.heap.size < V5.heap.size := by rw [← hV5, setCells_size]; exact lb4
      have r15 : V5.rangeAt w.heap.size 1 e.st := by rw [← hV5]; exact World.rangeAt_setCells_apart r14 q 0 _ (.inl (Nat.ne_of_lt xq))
      have r25 : V5.rangeAt w.heap.size 11 e.an_ := by rw [← hV5]; exact World.rangeAt_setCells_apart r24 q 0 _ (.inl (Nat.ne_of_lt xq))
      have fs5 : V5.rangeAt s 0 e.st := by rw [← hV5]; exact World.rangeAt_setCells_apart fs4 q 0 _ (.inl (by omega))
      have ls5 : s < V5.heap.size := by rw [← hV5, setCells_size]; exact ls4
      rw [hV5]
      refine hK.out _ _ ?_ (fun hHeld => ?_)
      · exact ⟨r15, r25⟩
      clear hK K hV5 r14 r24
      (try simp only [Act.put, List.setIfInBounds_toArray, List.set_cons_zero, List.set_cons_succ, List.getElem_toArray, List.getElem_cons_succ, List.getElem_cons_zero])
      refine wpAnyH_done (by kernel_rfl) ?_ _
      go_wp2_with fail
      go_meet
      exact ⟨s, q, rfl, rfl, fs5, fq5, ls5, lq5, ws, wq, HB5.out⟩
    · go_simp
      (try dsimp only)
      obtain ⟨V2, hV2⟩ : ∃ V, V1.alloc (.cells #[.int .i64 0, .int .i64 0, .int .i64 0, .int .i64 0, .bool false, .slice none 0 0, .slice none 0 0] 45) = V := ⟨_, rfl⟩
      have k2 : Below V1.heap.size V1 V2 := by rw [← hV2]; exact (Below.refl _ _).alloc (Nat.le_refl _) _
      have fq2 : V2.there V1.heap.size 0 7 := by rw [← hV2]; exact there_new V1 _ _
      have lq2 : V1.heap.size < V2.heap.size := by rw [← hV2]; simp
      rw [hV2]
      clear hV2
      have r12 := range_below r11 k2 lb1
      have r22 := range_below r21 k2 lb1
      have lb2 := Nat.lt_of_lt_of_le lb1 k2.size
      have HB2 := Lib.hid (HB1.out.trans (k2.mono HB1.out.size))
      have wq : w.heap.size ≤ V1.heap.size := HB1.out.size
      have xq : w.heap.size < V1.heap.size := lb1
      refine hK.out _ _ ?_ (fun hHeld => ?_)
      · exact ⟨r12, r22⟩
      clear hK K k2 r11 r21
      (try simp only [Act.put, List.setIfInBounds_toArray, List.set_cons_zero, List.set_cons_succ, List.getElem_toArray, List.getElem_cons_succ, List.getElem_cons_zero])
      generalize V1.heap.size = q at *
      refine wpAnyH_ready (rs := [4]) (by kernel_rfl) (by simp) ?_
      refine AllReadyH.cons rfl (fun K hK => ?_) (AllReadyH.nil)
      go_simp
      (try dsimp only)
      obtain ⟨V3, hV3⟩ : ∃ V, V2.alloc (.cells #[.int .i64 0, .int .i64 0, .int .i64 0, .int .i64 0, .int .u8 0, .int .i64 0, .int .i64 0, .string ⟨#[]⟩, .string ⟨#[]⟩, .slice none 0 0] 41) = V := ⟨_, rfl⟩
      have k3 : Below V2.heap.size V2 V3 := by rw [← hV3]; exact (Below.refl _ _).alloc (Nat.le_refl _) _
      have fs3 : V3.there V2.heap.size 0 10 := by rw [← hV3]; exact there_new V2 _ _
      have ls3 : V2.heap.size < V3.heap.size := by rw [← hV3]; simp
      rw [hV3]
      clear hV3
      have fq3 := there_below fq2 k3 lq2
      have lq3 := Nat.lt_of_lt_of_le lq2 k3.size
      have hn3 : q ≠ V2.heap.size := Nat.ne_of_lt lq2
      have r13 := range_below r12 k3 lb2
      have r23 := range_below r22 k3 lb2
      have lw.heap.size := Nat.lt_of_lt_of_le lb2 k3.size
      have HB3 := Lib.hid (HB2.out.trans (k3.mono HB2.out.size))
      have ws : w.heap.size ≤ V2.heap.size := HB2.out.size
      have xs : w.heap.size < V2.heap.size := lb2
      refine hK.out _ _ ?_ (fun hHeld => ?_)
      · exact ⟨r13, r23⟩
      clear hK K k3 r12 r22
      (try simp only [Act.put, List.setIfInBounds_toArray, List.set_cons_zero, List.set_cons_succ, List.getElem_toArray, List.getElem_cons_succ, List.getElem_cons_zero])
      generalize V2.heap.size = s at *
      refine wpAnyH_ready (rs := [6]) (by kernel_rfl) (by simp) ?_
      refine AllReadyH.cons rfl (fun K hK => ?_) (AllReadyH.nil)
      rw [if_pos (by rfl)]
      refine wp_store_mid 41 (.tmp 5) (.tmp 12) rfl s 0 e.st.toArray rfl rfl fs3 st_info e.st_one ?_
      obtain ⟨V4, hV4⟩ : ∃ V, V3.setCells s 0 e.st.toArray.toList = V := ⟨_, rfl⟩
      have HB4 : Hid (Below w.heap.size w V4) := Lib.hid (by rw [← hV4]; exact below_setCells _ _ ws _ _ _ _ HB3.out)
      have fs4 : V4.rangeAt s 0 e.st := by rw [← hV4]; exact World.rangeAt_setCells_same V3 s 0 e.st fs3
      have ls4 : s < V4.heap.size := by rw [← hV4, setCells_size]; exact ls3
      have lb4 : w.heap.size < V4.heap.size := by rw [← hV4, setCells_size]; exact lw.heap.size
      have r14 : V4.rangeAt w.heap.size 1 e.st := by rw [← hV4]; exact World.rangeAt_setCells_apart r13 s 0 _ (.inl (Nat.ne_of_lt xs))
      have r24 : V4.rangeAt w.heap.size 11 e.an_ := by rw [← hV4]; exact World.rangeAt_setCells_apart r23 s 0 _ (.inl (Nat.ne_of_lt xs))
      have fq4 : V4.there q 0 7 := by rw [← hV4]; exact World.there_setCells fq3 s 0 _
      have lq4 : q < V4.heap.size := by rw [← hV4, setCells_size]; exact lq3
      rw [hV4]
      refine hK.out _ _ ?_ (fun hHeld => ?_)
      · exact ⟨r14, r24⟩
      clear hK K hV4 r13 r23
      (try simp only [Act.put, List.setIfInBounds_toArray, List.set_cons_zero, List.set_cons_succ, List.getElem_toArray, List.getElem_cons_succ, List.getElem_cons_zero])
      refine wpAnyH_ready (rs := [7]) (by kernel_rfl) (by simp) ?_
      refine AllReadyH.cons rfl (fun K hK => ?_) (AllReadyH.nil)
      rw [if_pos (by rfl)]
      refine wp_store_mid 45 (.tmp 6) (.tmp 14) rfl q 0 e.an_.toArray rfl rfl fq4 an_info e.an_one ?_
      obtain ⟨V5, hV5⟩ : ∃ V, V4.setCells q 0 e.an_.toArray.toList = V := ⟨_, rfl⟩
      have HB5 : Hid (Below w.heap.size w V5) := Lib.hid (by rw [← hV5]; exact below_setCells _ _ wq _ _ _ _ HB4.out)
      have fq5 : V5.rangeAt q 0 e.an_ := by rw [← hV5]; exact World.rangeAt_setCells_same V4 q 0 e.an_ fq4
      have lq5 : q < V5.heap.size := by rw [← hV5, setCells_size]; exact lq4
      have lb5 : w.heap.size < V5.heap.size := by rw [← hV5, setCells_size]; exact lb4
      have r15 : V5.rangeAt w.heap.size 1 e.st := by rw [← hV5]; exact World.rangeAt_setCells_apart r14 q 0 _ (.inl (Nat.ne_of_lt xq))
      have r25 : V5.rangeAt w.heap.size 11 e.an_ := by rw [← hV5]; exact World.rangeAt_setCells_apart r24 q 0 _ (.inl (Nat.ne_of_lt xq))
      have fs5 : V5.rangeAt s 0 e.st := by rw [← hV5]; exact World.rangeAt_setCells_apart fs4 q 0 _ (.inl (by omega))
      have ls5 : s < V5.heap.size := by rw [← hV5, setCells_size]; exact ls4
      rw [hV5]
      refine hK.out _ _ ?_ (fun hHeld => ?_)
      · exact ⟨r15, r25⟩
      clear hK K hV5 r14 r24
      (try simp only [Act.put, List.setIfInBounds_toArray, List.set_cons_zero, List.set_cons_succ, List.getElem_toArray, List.getElem_cons_succ, List.getElem_cons_zero])
      refine wpAnyH_done (by kernel_rfl) ?_ _
      go_wp2_with fail
      go_meet
      exact ⟨s, q, rfl, rfl, fs5, fq5, ls5, lq5, ws, wq, HB5.out⟩
  case rest =>
  obtain ⟨s, q, rfl, rfl, hs, hq, hls, hlq, hws, hwq, hb⟩ := hcut
  have HB := Lib.hid hb
  have HRD := Lib.hid (fun (W : World) (k : Below w.heap.size w W) => read_any kb r mc l ws e.key t1 t2 e.fd e.B e.bc p W ((k.cell (p := ⟨kb, 1, none⟩) hlt).trans hk) (Nat.lt_of_lt_of_le hlt k.size) (map_but (S := fun _ => False) hm (But.of_below k) (fun h => h)) (h.below k) (hA.below k) hp)
  have s0 : wc.cell? ⟨s, 0, none⟩ = some (.int .i64 4) := by rw [← hkd]; exact hs 0 _ rfl
  have s1 : wc.cell? ⟨s, 1, none⟩ = some (.int .i64 e.nd) := hs 1 _ rfl
  have s2 : wc.cell? ⟨s, 2, none⟩ = some (.int .i64 e.n) := hs 2 _ rfl
  have s7 : wc.cell? ⟨s, 7, none⟩ = some (.string e.key) := hs 7 _ rfl
  have q4 : wc.cell? ⟨q, 4, none⟩ = some (.bool e.fd) := hq 4 _ rfl
  have q5 : wc.cell? ⟨q, 5, none⟩ = some (.slice e.B p.length e.bc) := by rw [← hbl]; exact hq 5 _ rfl
  replace hk2 := (hb.cell (p := ⟨kb, 2, none⟩) hlt).trans hk2
  replace hm2 := map_but (S := fun _ => False) hm2 (But.of_below hb) (fun h => h)
  have LL := Lib.hid (And.intro (Nat.lt_of_lt_of_le hlt hb.size) (And.intro hls hlq))
  clear hs hq hb hls hlq hws hwq hlt HBX hX h hk hm hA hp hbl
  go_upto_region 10 with fail
  refine wp_region_held_drew (S := fun w' => w'.cell? ⟨kb, 2, none⟩ = some (.map (some r2)) ∧ w'.heap[r2]? = some (.map (sn.map Sn.e).toArray mc2) ∧ w'.cell? ⟨s, 1, none⟩ = some (.int .i64 e.nd) ∧ w'.cell? ⟨s, 2, none⟩ = some (.int .i64 e.n)) (by kernel_rfl) ?_ (fun hHeld => ?_)
  · exact ⟨hk2, hm2, s1, s2⟩
  have k1 : Below wc.heap.size wc wc.drew := (Below.refl _ _).drew
  obtain ⟨V1, hV1⟩ : ∃ V1, wc.drew = V1 := ⟨_, rfl⟩
  rw [hV1] at k1 hHeld ⊢
  clear hV1
  have HB1 := Lib.hid (HB.out.trans (k1.mono HB.out.size))
  replace s7 := (k1.cell (p := ⟨s, 7, none⟩) LL.out.2.1).trans s7
  replace q4 := (k1.cell (p := ⟨q, 4, none⟩) LL.out.2.2).trans q4
  replace q5 := (k1.cell (p := ⟨q, 5, none⟩) LL.out.2.2).trans q5
  replace s1 := (k1.cell (p := ⟨s, 1, none⟩) LL.out.2.1).trans s1
  replace s2 := (k1.cell (p := ⟨s, 2, none⟩) LL.out.2.1).trans s2
  replace hk2 := (k1.cell (p := ⟨kb, 2, none⟩) LL.out.1).trans hk2
  replace hm2 := map_but (S := fun _ => False) hm2 (But.of_below k1) (fun h => h)
  have L1 := Lib.hid (And.intro (Nat.lt_of_lt_of_le LL.out.1 k1.size) (And.intro (Nat.lt_of_lt_of_le LL.out.2.1 k1.size) (Nat.lt_of_lt_of_le LL.out.2.2 k1.size)))
  clear k1 s0 HB
  refine tk9 0 ?_
  refine tk9 1 ?_
  refine tk9 2 ?_
  refine tk9 3 ?_
  refine tk9 4 ?_
  refine tk9 5 ?_
  refine tk9 6 ?_
  refine tk9 7 ?_
  refine tk9 8 ?_
  refine tk9 9 (hy := look_y (by rfl) 63 (.tmp 51) (.tmp 56) true rfl (.map (some r2)) (.agg #[.int .i64 e.nd, .int .i64 e.n]) (.tuple #[.agg #[.int .i64 t1, .int .i64 t2], .bool td]) rfl rfl (fun w' hw => HLS.out w' hw.2.1)) ?_
  refine tk9 10 ?_
  refine tk9 11 ?_
  refine tk9 12 ?_
  refine wpAnyH_ready (rs := [13]) (by kernel_rfl) (by simp) ?_
  refine AllReadyH.cons rfl (fun K hK => ?_) (AllReadyH.nil)
  go_simp
  (try dsimp only)
  obtain ⟨V2, hV2⟩ : ∃ V, V1.alloc (.cells #[.int .i64 0, .int .i64 0] 32) = V := ⟨_, rfl⟩
  have k2 : Below V1.heap.size V1 V2 := by rw [← hV2]; exact (Below.refl _ _).alloc (Nat.le_refl _) _
  have z0 : V2.cell? ⟨V1.heap.size, 0, none⟩ = some (.int .i64 0) := by rw [← hV2]; simp
  have z1 : V2.cell? ⟨V1.heap.size, 1, none⟩ = some (.int .i64 0) := by rw [← hV2]; simp
  have y0 : V2.frozen? ⟨V1.heap.size, 0, none⟩ = false := by rw [← hV2]; simp
  have y1 : V2.frozen? ⟨V1.heap.size, 1, none⟩ = false := by rw [← hV2]; simp
  rw [hV2]
  clear hV2
  replace s7 := (k2.cell (p := ⟨s, 7, none⟩) L1.out.2.1).trans s7
  replace q4 := (k2.cell (p := ⟨q, 4, none⟩) L1.out.2.2).trans q4
  replace q5 := (k2.cell (p := ⟨q, 5, none⟩) L1.out.2.2).trans q5
  replace s1 := (k2.cell (p := ⟨s, 1, none⟩) L1.out.2.1).trans s1
  replace s2 := (k2.cell (p := ⟨s, 2, none⟩) L1.out.2.1).trans s2
  replace hk2 := (k2.cell (p := ⟨kb, 2, none⟩) L1.out.1).trans hk2
  have hm2' := hm2
  replace hm2 := map_but (S := fun _ => False) hm2 (But.of_below k2) (fun h => h)
  have HB2 := Lib.hid (HB1.out.trans (k2.mono HB1.out.size))
  have hz : w.heap.size ≤ V1.heap.size := HB1.out.size
  have NE := Lib.hid (And.intro (Nat.ne_of_lt L1.out.1) (And.intro (Nat.ne_of_lt L1.out.2.1) (Nat.ne_of_lt L1.out.2.2)))
  have L2h : kb < V2.heap.size ∧ s < V2.heap.size ∧ q < V2.heap.size := ⟨Nat.lt_of_lt_of_le L1.out.1 k2.size, Nat.lt_of_lt_of_le L1.out.2.1 k2.size, Nat.lt_of_lt_of_le L1.out.2.2 k2.size⟩
  have NR : Hid (¬ r2 = V1.heap.size) := Lib.hid (Nat.ne_of_lt (Array.getElem?_eq_some_iff.1 hm2').1)
  refine hK.out _ _ ?_ (fun hHeld => ?_)
  · exact ⟨hk2, hm2, s1, s2⟩
  clear hK K k2 hHeld hm2'
  (try simp only [Act.put, List.setIfInBounds_toArray, List.set_cons_zero, List.set_cons_succ, List.getElem_toArray, List.getElem_cons_succ, List.getElem_cons_zero])
  generalize V1.heap.size = z at *
  have L2 := Lib.hid (show kb < V2.heap.size ∧ s < V2.heap.size ∧ q < V2.heap.size from L2h)
  refine wpAnyH_ready (rs := [14]) (by kernel_rfl) (by simp) ?_
  refine AllReadyH.cons rfl (fun K hK => ?_) (AllReadyH.nil)
  go_simp
  obtain ⟨V3, hV3⟩ : ∃ V, ((V2.setCell ⟨z, 0, none⟩ (.int .i64 t1)).setCell ⟨z, 1, none⟩ (.int .i64 t2)) = V := ⟨_, rfl⟩
  have O3 : Only z V2 V3 := by rw [← hV3]; exact ((Only.refl _ _).setB _).setB _
  have v0 : V3.cell? ⟨z, 0, none⟩ = some (.int .i64 t1) := by rw [← hV3]; exact (World.cell?_setCell_other _ ⟨z, 1, none⟩ ⟨z, 0, none⟩ _ (by simp)).trans (World.cell?_setCell_same V2 ⟨z, 0, none⟩ _ z0)
  have v1 : V3.cell? ⟨z, 1, none⟩ = some (.int .i64 t2) := by rw [← hV3]; exact World.cell?_setCell_same _ ⟨z, 1, none⟩ _ ((World.cell?_setCell_other V2 ⟨z, 0, none⟩ ⟨z, 1, none⟩ _ (by simp)).trans z1)
  have HB3 : Hid (Below w.heap.size w V3) := Lib.hid (by rw [← hV3]; exact (HB2.out.setCell (p := ⟨z, 0, none⟩) hz _).setCell (p := ⟨z, 1, none⟩) hz _)
  rw [hV3]
  clear hV3
  replace s7 := (O3.cell s 7 L2.out.2.1 NE.out.2.1).trans s7
  replace q4 := (O3.cell q 4 L2.out.2.2 NE.out.2.2).trans q4
  replace q5 := (O3.cell q 5 L2.out.2.2 NE.out.2.2).trans q5
  replace s1 := (O3.cell s 1 L2.out.2.1 NE.out.2.1).trans s1
  replace s2 := (O3.cell s 2 L2.out.2.1 NE.out.2.1).trans s2
  replace hk2 := (O3.cell kb 2 L2.out.1 NE.out.1).trans hk2
  replace hm2 := map_but hm2 (But.of_only (S := fun k => k = z) O3 rfl) NR.out
  (try dsimp only)
  refine hK.out _ _ ?_ (fun hHeld => ?_)
  · exact ⟨hk2, hm2, s1, s2⟩
  clear hK K O3 z0 z1 y0 y1
  (try simp only [Act.put, List.setIfInBounds_toArray, List.set_cons_zero, List.set_cons_succ, List.getElem_toArray, List.getElem_cons_succ, List.getElem_cons_zero])
  refine tk9 15 ?_
  refine wpAnyH_done (by kernel_rfl) ?_ _
  clear hHeld hm2 hk2 s1 s2
  cases td
  · as_aux_lemma =>
    go_wp2_with fail
    go_ret
    exact ⟨rfl, HB3.out⟩
  · as_aux_lemma =>
    go_wp2_with (go_at_call 21; refine (HRD.out _ HB3.out).mono ?_; rintro e1 w1 ⟨rfl, hb1⟩)
    go_ret
    exact ⟨by simp, HB3.out.trans (hb1.mono HB3.out.size)⟩
end Go.Proofs.Ytdjhpajmbddffaa
