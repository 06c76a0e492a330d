/- Stage 25: CausalOthers: the law's walk and the claim. -/
import Derived.Sort.OwnSorted
import Derived.Test.YtdjhpajmbddffaaArgEv25
import Derived.Test.YtdjhpajmbddffaaBase
import Derived.Test.YtdjhpajmbddffaaCk25
import Derived.Test.YtdjhpajmbddffaaCo25
import Derived.Test.YtdjhpajmbddffaaCoG25
import Derived.Test.YtdjhpajmbddffaaHv25
import Derived.Test.YtdjhpajmbddffaaKn25
import Derived.Test.YtdjhpajmbddffaaRd25
import Derived.Test.YtdjhpajmbddffaaSc25
import Derived.Test.YtdjhpajmbddffaaSortSL
import Derived.Test.YtdjhpajmbddffaaWa25
/- Stage 25: could of any Scan (written by gen/cos25.py out of XCoG25). -/
set_option linter.unusedSimpArgs false
set_option linter.unusedVariables false
namespace Go.Proofs.Ytdjhpajmbddffaa
open Go.RowKit

/-- Could a Scan be? -/
def scP (ws : List Wm) (keys : List ByteArray) (sn : List Sn) (e : Ev) (Ps : List Pr) : Bool := !(lkS e.nd e.n sn).isSome || scanP ws keys e ((lkS e.nd e.n sn).getD (0, 0)).1 ((lkS e.nd e.n sn).getD (0, 0)).2 Ps
set_option maxRecDepth 100000 in
set_option maxHeartbeats 16000000 in
theorem could_scan_any (kb r r2 mc mc2 : Nat) (l : List En) (ws : List Wm) (sn : List Sn) (keys : List ByteArray) (KA : Option Addr) (kc : Nat) (Ps : List Pr) (e : Ev) (w : World) (hkd : e.kd = 5) (hbl : e.pl = Ps.length)
    (hk2 : w.cell? ⟨kb, 2, none⟩ = some (.map (some r2))) (hm2 : w.heap[r2]? = some (.map (sn.map Sn.e).toArray mc2))
    (hk0 : w.cell? ⟨kb, 0, none⟩ = some (.slice KA keys.length kc)) (hK : StrRow w KA keys) (hkl : keys.length ≤ 1000)
    (hk : w.cell? ⟨kb, 1, none⟩ = some (.map (some r))) (hlt : kb < w.heap.size) (hm : w.heap[r]? = some (.map (l.map En.e).toArray mc)) (h : MapOk w l ws)
    (hR : RowG Pr.cs w e.P Ps) (hall : ∀ x ∈ Ps, PrIn w x) (hl : Ps.length ≤ 9223372036854775807) :
    Calls Try.prog 17 #[.pointer (some ⟨kb, 0, none⟩), .agg e.cs.toArray] w fun e' w' => e' = .returned (.bool (scP ws keys sn e Ps)) ∧ Below w.heap.size w w' := by
  obtain ⟨t1, ht1⟩ : ∃ z, ((lkS e.nd e.n sn).getD (0, 0)).1 = z := ⟨_, rfl⟩
  obtain ⟨t2, ht2⟩ : ∃ z, ((lkS e.nd e.n sn).getD (0, 0)).2 = z := ⟨_, rfl⟩
  obtain ⟨td, htd⟩ : ∃ z, (lkS e.nd e.n sn).isSome = z := ⟨_, rfl⟩
  have HLS := Lib.hid (fun (W : World) (hW : W.heap[r2]? = some (.map (sn.map Sn.e).toArray mc2)) => (look_sn W r2 mc2 e.nd e.n sn hW).trans (by rw [ht1, ht2, htd]))
  have HGP : Hid (scP ws keys sn e Ps = (!td || scanP ws keys e t1 t2 Ps)) := Lib.hid (by rw [← ht1, ← ht2, ← htd]; rfl)
  rw [HGP.out]
  clear ht1 ht2 htd HGP
  have HBX := Lib.hid (range_new w e.cs 47)
  obtain ⟨X, hX⟩ : ∃ X : Array Value, e.cs.toArray = X := ⟨_, rfl⟩
  rw [hX] at HBX ⊢
  go_enter Try.func17, Try.ntmps17
  go_upto_region 1 with fail
  go_cut [5, 6] from 11 to 14 (fun p5 p6 wx => ∃ s q, p5 = .pointer (some ⟨s, 0, none⟩) ∧ p6 = .pointer (some ⟨q, 0, none⟩) ∧ wx.rangeAt s 0 e.st ∧ wx.rangeAt q 0 e.an_ ∧ s < wx.heap.size ∧ q < wx.heap.size ∧ w.heap.size ≤ s ∧ w.heap.size ≤ q ∧ Below w.heap.size w wx)
  case first =>
    obtain ⟨V0, hV0⟩ : ∃ V, w.alloc (.cells X 47) = V := ⟨_, rfl⟩
    have HB0 : Hid (Below w.heap.size w V0) := Lib.hid (by rw [← hV0]; exact (Below.refl _ _).alloc (Nat.le_refl _) _)
    have r10 : V0.rangeAt w.heap.size 1 e.st := by rw [← hV0]; exact range_part HBX.out 1 10
    have r20 : V0.rangeAt w.heap.size 11 e.an_ := by rw [← hV0]; exact range_part HBX.out 11 7
    have lb0 : w.heap.size < V0.heap.size := by rw [← hV0]; simp
    rw [hV0]
    clear hV0 HBX
    refine wp_region_held_drew (S := fun w' => w'.rangeAt w.heap.size 1 e.st ∧ w'.rangeAt w.heap.size 11 e.an_) (by kernel_rfl) ?_ (fun hHeld => ?_)
    · exact ⟨r10, r20⟩
    have k1 : Below V0.heap.size V0 V0.drew := (Below.refl _ _).drew
    obtain ⟨V1, hV1⟩ : ∃ V1, V0.drew = V1 := ⟨_, rfl⟩
    rw [hV1] at k1 hHeld ⊢
    clear hV1
    have r11 := range_below r10 k1 lb0
    have r21 := range_below r20 k1 lb0
    have lb1 := Nat.lt_of_lt_of_le lb0 k1.size
    have HB1 := Lib.hid (HB0.out.trans (k1.mono HB0.out.size))
    clear k1 HB0 r10 r20
    refine tk9 0 ?_
    refine tk9 1 (hy := yieldsIf_load_mid (by rfl) 41 (.tmp 11) rfl w.heap.size 1 rfl e.st _ (fun w' hw => hw.1) Try.underlying41 rfl st_info) ?_
    refine tk9 2 ?_
    refine tk9 3 (hy := yieldsIf_load_mid (by rfl) 45 (.tmp 13) rfl w.heap.size 11 rfl e.an_ _ (fun w' hw => hw.2) Try.underlying45 rfl an_info) ?_
    clear lb0
    refine wpAnyH_ready (rs := [4, 5]) (by kernel_rfl) (by simp) ?_
    refine AllReadyH.cons rfl (fun K hK => ?_) (AllReadyH.cons rfl (fun K hK => ?_) (AllReadyH.nil))
    · go_simp
      (try dsimp only)
      obtain ⟨V2, hV2⟩ : ∃ V, V1.alloc (.cells #[.int .i64 0, .int .i64 0, .int .i64 0, .int .i64 0, .int .u8 0, .int .i64 0, .int .i64 0, .string ⟨#[]⟩, .string ⟨#[]⟩, .slice none 0 0] 41) = V := ⟨_, rfl⟩
      have k2 : Below V1.heap.size V1 V2 := by rw [← hV2]; exact (Below.refl _ _).alloc (Nat.le_refl _) _
      have fs2 : V2.there V1.heap.size 0 10 := by rw [← hV2]; exact there_new V1 _ _
      have ls2 : V1.heap.size < V2.heap.size := by rw [← hV2]; simp
      rw [hV2]
      clear hV2
      have r12 := range_below r11 k2 lb1
      have r22 := range_below r21 k2 lb1
      have lb2 := Nat.lt_of_lt_of_le lb1 k2.size
      have HB2 := Lib.hid (HB1.out.trans (k2.mono HB1.out.size))
      have ws : w.heap.size ≤ V1.heap.size := HB1.out.size
      have xs : w.heap.size < V1.heap.size := lb1
      refine hK.out _ _ ?_ (fun hHeld => ?_)
      · exact ⟨r12, r22⟩
      clear hK K k2 r11 r21
      (try simp only [Act.put, List.setIfInBounds_toArray, List.set_cons_zero, List.set_cons_succ, List.getElem_toArray, List.getElem_cons_succ, List.getElem_cons_zero])
      generalize V1.heap.size = s at *
      refine wpAnyH_ready (rs := [5]) (by kernel_rfl) (by simp) ?_
      refine AllReadyH.cons rfl (fun K hK => ?_) (AllReadyH.nil)
      go_simp
      (try dsimp only)
      obtain ⟨V3, hV3⟩ : ∃ V, V2.alloc (.cells #[.int .i64 0, .int .i64 0, .int .i64 0, .int .i64 0, .bool false, .slice none 0 0, .slice none 0 0] 45) = V := ⟨_, rfl⟩
      have k3 : Below V2.heap.size V2 V3 := by rw [← hV3]; exact (Below.refl _ _).alloc (Nat.le_refl _) _
      have fq3 : V3.there V2.heap.size 0 7 := by rw [← hV3]; exact there_new V2 _ _
      have lq3 : V2.heap.size < V3.heap.size := by rw [← hV3]; simp
      rw [hV3]
      clear hV3
      have fs3 := there_below fs2 k3 ls2
      have ls3 := Nat.lt_of_lt_of_le ls2 k3.size
      have hn3 : s ≠ V2.heap.size := Nat.ne_of_lt ls2
      have r13 := range_below r12 k3 lb2
      have r23 := range_below r22 k3 lb2
      have lw.heap.size := Nat.lt_of_lt_of_le lb2 k3.size
      have HB3 := Lib.hid (HB2.out.trans (k3.mono HB2.out.size))
      have wq : w.heap.size ≤ V2.heap.size := HB2.out.size
      have xq : w.heap.size < V2.heap.size := lb2
      refine hK.out _ _ ?_ (fun hHeld => ?_)
      · exact ⟨r13, r23⟩
      clear hK K k3 r12 r22
      (try simp only [Act.put, List.setIfInBounds_toArray, List.set_cons_zero, List.set_cons_succ, List.getElem_toArray, List.getElem_cons_succ, List.getElem_cons_zero])
      generalize V2.heap.size = q at *
      refine wpAnyH_ready (rs := [6]) (by kernel_rfl) (by simp) ?_
      refine AllReadyH.cons rfl (fun K hK => ?_) (AllReadyH.nil)
      rw [if_pos (by rfl)]
      refine wp_store_mid 41 (.tmp 5) (.tmp 12) rfl s 0 e.st.toArray rfl rfl fs3 st_info e.st_one ?_
      obtain ⟨V4, hV4⟩ : ∃ V, V3.setCells s 0 e.st.toArray.toList = V := ⟨_, rfl⟩
      have HB4 : Hid (Below w.heap.size w V4) := Lib.hid (by rw [← hV4]; exact below_setCells _ _ ws _ _ _ _ HB3.out)
      have fs4 : V4.rangeAt s 0 e.st := by rw [← hV4]; exact World.rangeAt_setCells_same V3 s 0 e.st fs3
      have ls4 : s < V4.heap.size := by rw [← hV4, setCells_size]; exact ls3
      have lb4 : w.heap.size < V4.heap.size := by rw [← hV4, setCells_size]; exact lw.heap.size
      have r14 : V4.rangeAt w.heap.size 1 e.st := by rw [← hV4]; exact World.rangeAt_setCells_apart r13 s 0 _ (.inl (Nat.ne_of_lt xs))
      have r24 : V4.rangeAt w.heap.size 11 e.an_ := by rw [← hV4]; exact World.rangeAt_setCells_apart r23 s 0 _ (.inl (Nat.ne_of_lt xs))
      have fq4 : V4.there q 0 7 := by rw [← hV4]; exact World.there_setCells fq3 s 0 _
      have lq4 : q < V4.heap.size := by rw [← hV4, setCells_size]; exact lq3
      rw [hV4]
      refine hK.out _ _ ?_ (fun hHeld => ?_)
      · exact ⟨r14, r24⟩
      clear hK K hV4 r13 r23
      (try simp only [Act.put, List.setIfInBounds_toArray, List.set_cons_zero, List.set_cons_succ, List.getElem_toArray, List.getElem_cons_succ, List.getElem_cons_zero])
      refine wpAnyH_ready (rs := [7]) (by kernel_rfl) (by simp) ?_
      refine AllReadyH.cons rfl (fun K hK => ?_) (AllReadyH.nil)
      rw [if_pos (by rfl)]
      refine wp_store_mid 45 (.tmp 6) (.tmp 14) rfl q 0 e.an_.toArray rfl rfl fq4 an_info e.an_one ?_
      obtain ⟨V5, hV5⟩ : ∃ V, V4.setCells q 0 e.an_.toArray.toList = V := ⟨_, rfl⟩
      have HB5 : Hid (Below w.heap.size w V5) := Lib.hid (by rw [← hV5]; exact below_setCells _ _ wq _ _ _ _ HB4.out)
      have fq5 : V5.rangeAt q 0 e.an_ := by rw [← hV5]; exact World.rangeAt_setCells_same V4 q 0 e.an_ fq4
      have lq5 : q < V5.heap.size := by rw [← hV5, setCells_size]; exact lq4
      have lb5 : w.heap.size < V5.heap.size := by rw [← hV5, setCells_size]; exact lb4
      have r15 : V5.rangeAt w.heap.size 1 e.st := by rw [← hV5]; exact World.rangeAt_setCells_apart r14 q 0 _ (.inl (Nat.ne_of_lt xq))
      have r25 : V5.rangeAt w.heap.size 11 e.an_ := by rw [← hV5]; exact World.rangeAt_setCells_apart r24 q 0 _ (.inl (Nat.ne_of_lt xq))
      have fs5 : V5.rangeAt s 0 e.st := by rw [← hV5]; exact World.rangeAt_setCells_apart fs4 q 0 _ (.inl (by omega))
      have ls5 : s < V5.heap.size := by rw [← hV5, setCells_size]; exact ls4
      rw [hV5]
      refine hK.out _ _ ?_ (fun hHeld => ?_)
      · exact ⟨r15, r25⟩
      clear hK K hV5 r14 r24
      (try simp only [Act.put, List.setIfInBounds_toArray, List.set_cons_zero, List.set_cons_succ, List.getElem_toArray, List.getElem_cons_succ, List.getElem_cons_zero])
      refine wpAnyH_done (by kernel_rfl) ?_ _
      go_wp2_with fail
      go_meet
      exact ⟨s, q, rfl, rfl, fs5, fq5, ls5, lq5, ws, wq, HB5.out⟩
    · go_simp
      (try dsimp only)
      obtain ⟨V2, hV2⟩ : ∃ V, V1.alloc (.cells #[.int .i64 0, .int .i64 0, .int .i64 0, .int .i64 0, .bool false, .slice none 0 0, .slice none 0 0] 45) = V := ⟨_, rfl⟩
      have k2 : Below V1.heap.size V1 V2 := by rw [← hV2]; exact (Below.refl _ _).alloc (Nat.le_refl _) _
      have fq2 : V2.there V1.heap.size 0 7 := by rw [← hV2]; exact there_new V1 _ _
      have lq2 : V1.heap.size < V2.heap.size := by rw [← hV2]; simp
      rw [hV2]
      clear hV2
      have r12 := range_below r11 k2 lb1
      have r22 := range_below r21 k2 lb1
      have lb2 := Nat.lt_of_lt_of_le lb1 k2.size
      have HB2 := Lib.hid (HB1.out.trans (k2.mono HB1.out.size))
      have wq : w.heap.size ≤ V1.heap.size := HB1.out.size
      have xq : w.heap.size < V1.heap.size := lb1
      refine hK.out _ _ ?_ (fun hHeld => ?_)
      · exact ⟨r12, r22⟩
      clear hK K k2 r11 r21
      (try simp only [Act.put, List.setIfInBounds_toArray, List.set_cons_zero, List.set_cons_succ, List.getElem_toArray, List.getElem_cons_succ, List.getElem_cons_zero])
      generalize V1.heap.size = q at *
      refine wpAnyH_ready (rs := [4]) (by kernel_rfl) (by simp) ?_
      refine AllReadyH.cons rfl (fun K hK => ?_) (AllReadyH.nil)
      go_simp
      (try dsimp only)
      obtain ⟨V3, hV3⟩ : ∃ V, V2.alloc (.cells #[.int .i64 0, .int .i64 0, .int .i64 0, .int .i64 0, .int .u8 0, .int .i64 0, .int .i64 0, .string ⟨#[]⟩, .string ⟨#[]⟩, .slice none 0 0] 41) = V := ⟨_, rfl⟩
      have k3 : Below V2.heap.size V2 V3 := by rw [← hV3]; exact (Below.refl _ _).alloc (Nat.le_refl _) _
      have fs3 : V3.there V2.heap.size 0 10 := by rw [← hV3]; exact there_new V2 _ _
      have ls3 : V2.heap.size < V3.heap.size := by rw [← hV3]; simp
      rw [hV3]
      clear hV3
      have fq3 := there_below fq2 k3 lq2
      have lq3 := Nat.lt_of_lt_of_le lq2 k3.size
      have hn3 : q ≠ V2.heap.size := Nat.ne_of_lt lq2
      have r13 := range_below r12 k3 lb2
      have r23 := range_below r22 k3 lb2
      have lw.heap.size := Nat.lt_of_lt_of_le lb2 k3.size
      have HB3 := Lib.hid (HB2.out.trans (k3.mono HB2.out.size))
      have ws : w.heap.size ≤ V2.heap.size := HB2.out.size
      have xs : w.heap.size < V2.heap.size := lb2
      refine hK.out _ _ ?_ (fun hHeld => ?_)
      · exact ⟨r13, r23⟩
      clear hK K k3 r12 r22
      (try simp only [Act.put, List.setIfInBounds_toArray, List.set_cons_zero, List.set_cons_succ, List.getElem_toArray, List.getElem_cons_succ, List.getElem_cons_zero])
      generalize V2.heap.size = s at *
      refine wpAnyH_ready (rs := [6]) (by kernel_rfl) (by simp) ?_
      refine AllReadyH.cons rfl (fun K hK => ?_) (AllReadyH.nil)
      rw [if_pos (by rfl)]
      refine wp_store_mid 41 (.tmp 5) (.tmp 12) rfl s 0 e.st.toArray rfl rfl fs3 st_info e.st_one ?_
      obtain ⟨V4, hV4⟩ : ∃ V, V3.setCells s 0 e.st.toArray.toList = V := ⟨_, rfl⟩
      have HB4 : Hid (Below w.heap.size w V4) := Lib.hid (by rw [← hV4]; exact below_setCells _ _ ws _ _ _ _ HB3.out)
      have fs4 : V4.rangeAt s 0 e.st := by rw [← hV4]; exact World.rangeAt_setCells_same V3 s 0 e.st fs3
      have ls4 : s < V4.heap.size := by rw [← hV4, setCells_size]; exact ls3
      have lb4 : w.heap.size < V4.heap.size := by rw [← hV4, setCells_size]; exact lw.heap.size
      have r14 : V4.rangeAt w.heap.size 1 e.st := by rw [← hV4]; exact World.rangeAt_setCells_apart r13 s 0 _ (.inl (Nat.ne_of_lt xs))
      have r24 : V4.rangeAt w.heap.size 11 e.an_ := by rw [← hV4]; exact World.rangeAt_setCells_apart r23 s 0 _ (.inl (Nat.ne_of_lt xs))
      have fq4 : V4.there q 0 7 := by rw [← hV4]; exact World.there_setCells fq3 s 0 _
      have lq4 : q < V4.heap.size := by rw [← hV4, setCells_size]; exact lq3
      rw [hV4]
      refine hK.out _ _ ?_ (fun hHeld => ?_)
      · exact ⟨r14, r24⟩
      clear hK K hV4 r13 r23
      (try simp only [Act.put, List.setIfInBounds_toArray, List.set_cons_zero, List.set_cons_succ, List.getElem_toArray, List.getElem_cons_succ, List.getElem_cons_zero])
      refine wpAnyH_ready (rs := [7]) (by kernel_rfl) (by simp) ?_
      refine AllReadyH.cons rfl (fun K hK => ?_) (AllReadyH.nil)
      rw [if_pos (by rfl)]
      refine wp_store_mid 45 (.tmp 6) (.tmp 14) rfl q 0 e.an_.toArray rfl rfl fq4 an_info e.an_one ?_
      obtain ⟨V5, hV5⟩ : ∃ V, V4.setCells q 0 e.an_.toArray.toList = V := ⟨_, rfl⟩
      have HB5 : Hid (Below w.heap.size w V5) := Lib.hid (by rw [← hV5]; exact below_setCells _ _ wq _ _ _ _ HB4.out)
      have fq5 : V5.rangeAt q 0 e.an_ := by rw [← hV5]; exact World.rangeAt_setCells_same V4 q 0 e.an_ fq4
      have lq5 : q < V5.heap.size := by rw [← hV5, setCells_size]; exact lq4
      have lb5 : w.heap.size < V5.heap.size := by rw [← hV5, setCells_size]; exact lb4
      have r15 : V5.rangeAt w.heap.size 1 e.st := by rw [← hV5]; exact World.rangeAt_setCells_apart r14 q 0 _ (.inl (Nat.ne_of_lt xq))
      have r25 : V5.rangeAt w.heap.size 11 e.an_ := by rw [← hV5]; exact World.rangeAt_setCells_apart r24 q 0 _ (.inl (Nat.ne_of_lt xq))
      have fs5 : V5.rangeAt s 0 e.st := by rw [← hV5]; exact World.rangeAt_setCells_apart fs4 q 0 _ (.inl (by omega))
      have ls5 : s < V5.heap.size := by rw [← hV5, setCells_size]; exact ls4
      rw [hV5]
      refine hK.out _ _ ?_ (fun hHeld => ?_)
      · exact ⟨r15, r25⟩
      clear hK K hV5 r14 r24
      (try simp only [Act.put, List.setIfInBounds_toArray, List.set_cons_zero, List.set_cons_succ, List.getElem_toArray, List.getElem_cons_succ, List.getElem_cons_zero])
      refine wpAnyH_done (by kernel_rfl) ?_ _
      go_wp2_with fail
      go_meet
      exact ⟨s, q, rfl, rfl, fs5, fq5, ls5, lq5, ws, wq, HB5.out⟩
  case rest =>
  obtain ⟨s, q, rfl, rfl, hs, hq, hls, hlq, hws, hwq, hb⟩ := hcut
  have HB := Lib.hid hb
  have HRD := Lib.hid (fun (W : World) (k : Below w.heap.size w W) => scanned_any kb r mc l ws keys KA kc Ps e.P e.pc e t1 t2 W ((k.cell (p := ⟨kb, 0, none⟩) hlt).trans hk0) (hK.below k) hkl ((k.cell (p := ⟨kb, 1, none⟩) hlt).trans hk) (Nat.lt_of_lt_of_le hlt k.size) (map_but (S := fun _ => False) hm (But.of_below k) (fun h => h)) (h.below k) (hR.below k) (fun x hx => ⟨(hall x hx).1.below k, (hall x hx).2⟩) hl)
  have s0 : wc.cell? ⟨s, 0, none⟩ = some (.int .i64 5) := by rw [← hkd]; exact hs 0 _ rfl
  have s1 : wc.cell? ⟨s, 1, none⟩ = some (.int .i64 e.nd) := hs 1 _ rfl
  have s2 : wc.cell? ⟨s, 2, none⟩ = some (.int .i64 e.n) := hs 2 _ rfl
  have s7 : wc.rangeAt s 0 e.st := hs
  have q5 : wc.cell? ⟨q, 6, none⟩ = some (.slice e.P Ps.length e.pc) := by rw [← hbl]; exact hq 6 _ rfl
  replace hk2 := (hb.cell (p := ⟨kb, 2, none⟩) hlt).trans hk2
  replace hm2 := map_but (S := fun _ => False) hm2 (But.of_below hb) (fun h => h)
  have LL := Lib.hid (And.intro (Nat.lt_of_lt_of_le hlt hb.size) (And.intro hls hlq))
  clear hs hq hb hls hlq hws hwq hlt HBX hX h hk hm hbl hk0 hK hR hall
  go_upto_region 13 with fail
  refine wp_region_held_drew (S := fun w' => w'.cell? ⟨kb, 2, none⟩ = some (.map (some r2)) ∧ w'.heap[r2]? = some (.map (sn.map Sn.e).toArray mc2) ∧ w'.cell? ⟨s, 1, none⟩ = some (.int .i64 e.nd) ∧ w'.cell? ⟨s, 2, none⟩ = some (.int .i64 e.n)) (by kernel_rfl) ?_ (fun hHeld => ?_)
  · exact ⟨hk2, hm2, s1, s2⟩
  have k1 : Below wc.heap.size wc wc.drew := (Below.refl _ _).drew
  obtain ⟨V1, hV1⟩ : ∃ V1, wc.drew = V1 := ⟨_, rfl⟩
  rw [hV1] at k1 hHeld ⊢
  clear hV1
  have HB1 := Lib.hid (HB.out.trans (k1.mono HB.out.size))
  replace s7 := range_below s7 k1 LL.out.2.1
  replace q5 := (k1.cell (p := ⟨q, 6, none⟩) LL.out.2.2).trans q5
  replace s1 := (k1.cell (p := ⟨s, 1, none⟩) LL.out.2.1).trans s1
  replace s2 := (k1.cell (p := ⟨s, 2, none⟩) LL.out.2.1).trans s2
  replace hk2 := (k1.cell (p := ⟨kb, 2, none⟩) LL.out.1).trans hk2
  replace hm2 := map_but (S := fun _ => False) hm2 (But.of_below k1) (fun h => h)
  have L1 := Lib.hid (And.intro (Nat.lt_of_lt_of_le LL.out.1 k1.size) (And.intro (Nat.lt_of_lt_of_le LL.out.2.1 k1.size) (Nat.lt_of_lt_of_le LL.out.2.2 k1.size)))
  clear k1 s0 HB
  refine tk9 0 ?_
  refine tk9 1 ?_
  refine tk9 2 ?_
  refine tk9 3 ?_
  refine tk9 4 ?_
  refine tk9 5 ?_
  refine tk9 6 ?_
  refine tk9 7 ?_
  refine tk9 8 ?_
  refine tk9 9 (hy := look_y (by rfl) 63 (.tmp 79) (.tmp 84) true rfl (.map (some r2)) (.agg #[.int .i64 e.nd, .int .i64 e.n]) (.tuple #[.agg #[.int .i64 t1, .int .i64 t2], .bool td]) rfl rfl (fun w' hw => HLS.out w' hw.2.1)) ?_
  refine tk9 10 ?_
  refine tk9 11 ?_
  refine tk9 12 ?_
  refine wpAnyH_ready (rs := [13]) (by kernel_rfl) (by simp) ?_
  refine AllReadyH.cons rfl (fun K hK => ?_) (AllReadyH.nil)
  go_simp
  (try dsimp only)
  obtain ⟨V2, hV2⟩ : ∃ V, V1.alloc (.cells #[.int .i64 0, .int .i64 0] 32) = V := ⟨_, rfl⟩
  have k2 : Below V1.heap.size V1 V2 := by rw [← hV2]; exact (Below.refl _ _).alloc (Nat.le_refl _) _
  have z0 : V2.cell? ⟨V1.heap.size, 0, none⟩ = some (.int .i64 0) := by rw [← hV2]; simp
  have z1 : V2.cell? ⟨V1.heap.size, 1, none⟩ = some (.int .i64 0) := by rw [← hV2]; simp
  have y0 : V2.frozen? ⟨V1.heap.size, 0, none⟩ = false := by rw [← hV2]; simp
  have y1 : V2.frozen? ⟨V1.heap.size, 1, none⟩ = false := by rw [← hV2]; simp
  rw [hV2]
  clear hV2
  replace s7 := range_below s7 k2 L1.out.2.1
  replace q5 := (k2.cell (p := ⟨q, 6, none⟩) L1.out.2.2).trans q5
  replace s1 := (k2.cell (p := ⟨s, 1, none⟩) L1.out.2.1).trans s1
  replace s2 := (k2.cell (p := ⟨s, 2, none⟩) L1.out.2.1).trans s2
  replace hk2 := (k2.cell (p := ⟨kb, 2, none⟩) L1.out.1).trans hk2
  have hm2' := hm2
  replace hm2 := map_but (S := fun _ => False) hm2 (But.of_below k2) (fun h => h)
  have HB2 := Lib.hid (HB1.out.trans (k2.mono HB1.out.size))
  have hz : w.heap.size ≤ V1.heap.size := HB1.out.size
  have NE := Lib.hid (And.intro (Nat.ne_of_lt L1.out.1) (And.intro (Nat.ne_of_lt L1.out.2.1) (Nat.ne_of_lt L1.out.2.2)))
  have L2h : kb < V2.heap.size ∧ s < V2.heap.size ∧ q < V2.heap.size := ⟨Nat.lt_of_lt_of_le L1.out.1 k2.size, Nat.lt_of_lt_of_le L1.out.2.1 k2.size, Nat.lt_of_lt_of_le L1.out.2.2 k2.size⟩
  have NR : Hid (¬ r2 = V1.heap.size) := Lib.hid (Nat.ne_of_lt (Array.getElem?_eq_some_iff.1 hm2').1)
  refine hK.out _ _ ?_ (fun hHeld => ?_)
  · exact ⟨hk2, hm2, s1, s2⟩
  clear hK K k2 hHeld hm2'
  (try simp only [Act.put, List.setIfInBounds_toArray, List.set_cons_zero, List.set_cons_succ, List.getElem_toArray, List.getElem_cons_succ, List.getElem_cons_zero])
  generalize V1.heap.size = z at *
  have L2 := Lib.hid (show kb < V2.heap.size ∧ s < V2.heap.size ∧ q < V2.heap.size from L2h)
  refine wpAnyH_ready (rs := [14]) (by kernel_rfl) (by simp) ?_
  refine AllReadyH.cons rfl (fun K hK => ?_) (AllReadyH.nil)
  go_simp
  obtain ⟨V3, hV3⟩ : ∃ V, ((V2.setCell ⟨z, 0, none⟩ (.int .i64 t1)).setCell ⟨z, 1, none⟩ (.int .i64 t2)) = V := ⟨_, rfl⟩
  have O3 : Only z V2 V3 := by rw [← hV3]; exact ((Only.refl _ _).setB _).setB _
  have v0 : V3.cell? ⟨z, 0, none⟩ = some (.int .i64 t1) := by rw [← hV3]; exact (World.cell?_setCell_other _ ⟨z, 1, none⟩ ⟨z, 0, none⟩ _ (by simp)).trans (World.cell?_setCell_same V2 ⟨z, 0, none⟩ _ z0)
  have v1 : V3.cell? ⟨z, 1, none⟩ = some (.int .i64 t2) := by rw [← hV3]; exact World.cell?_setCell_same _ ⟨z, 1, none⟩ _ ((World.cell?_setCell_other V2 ⟨z, 0, none⟩ ⟨z, 1, none⟩ _ (by simp)).trans z1)
  have HB3 : Hid (Below w.heap.size w V3) := Lib.hid (by rw [← hV3]; exact (HB2.out.setCell (p := ⟨z, 0, none⟩) hz _).setCell (p := ⟨z, 1, none⟩) hz _)
  rw [hV3]
  clear hV3
  replace s7 : V3.rangeAt s 0 e.st := fun j u hu => (O3.cell s (0 + j) L2.out.2.1 NE.out.2.1).trans (s7 j u hu)
  replace q5 := (O3.cell q 6 L2.out.2.2 NE.out.2.2).trans q5
  replace s1 := (O3.cell s 1 L2.out.2.1 NE.out.2.1).trans s1
  replace s2 := (O3.cell s 2 L2.out.2.1 NE.out.2.1).trans s2
  replace hk2 := (O3.cell kb 2 L2.out.1 NE.out.1).trans hk2
  replace hm2 := map_but hm2 (But.of_only (S := fun k => k = z) O3 rfl) NR.out
  (try dsimp only)
  refine hK.out _ _ ?_ (fun hHeld => ?_)
  · exact ⟨hk2, hm2, s1, s2⟩
  clear hK K O3 z0 z1 y0 y1
  (try simp only [Act.put, List.setIfInBounds_toArray, List.set_cons_zero, List.set_cons_succ, List.getElem_toArray, List.getElem_cons_succ, List.getElem_cons_zero])
  refine tk9 15 ?_
  refine wpAnyH_done (by kernel_rfl) ?_ _
  clear hHeld hm2 hk2 s1 s2
  have vv : V3.rangeAt z 0 [.int .i64 t1, .int .i64 t2] := fun j u hu => by
    match j with
    | 0 => injection hu with hu; subst hu; exact v0
    | 1 => injection hu with hu; subst hu; exact v1
    | j + 2 => cases hu
  clear v0 v1
  cases td
  · as_aux_lemma =>
    go_wp2_with fail
    go_ret
    exact ⟨rfl, HB3.out⟩
  · as_aux_lemma =>
    go_upto_region 14 with fail
    refine wp_region_lit ?_
    refine wpList_plain rfl (fun KK hKK => ?_)
    go_simp
    refine hKK _ _ ?_
    refine wpList_plain rfl (fun KK hKK => ?_)
    go_simp
    refine hKK _ _ ?_
    refine wpList_plain rfl (fun KK hKK => ?_)
    go_simp
    refine hKK _ _ ?_
    refine wpList_step (fun KK hKK => ?_)
    rw [if_pos (by rfl)]
    go_simp
    refine hKK _ _ ?_
    refine wpList_step (fun KK hKK => ?_)
    rw [if_pos (by rfl)]
    refine wp_load_mid 41 (.tmp 5) rfl s 0 (by first | rfl | simp) e.st _ s7 Try.underlying41 rfl st_info ?_
    refine hKK _ _ ?_
    refine wpList_step (fun KK hKK => ?_)
    rw [if_pos (by rfl)]
    refine wp_load_mid 32 (.tmp 9) rfl z 0 (by first | rfl | simp) [.int .i64 t1, .int .i64 t2] _ vv Try.underlying32 rfl stp_size ?_
    refine hKK _ _ ?_
    refine wpList_step (fun KK hKK => ?_)
    rw [if_pos (by rfl)]
    go_simp
    refine hKK _ _ ?_
    refine wpList_step (fun KK hKK => ?_)
    rw [if_pos (by rfl)]
    go_simp
    refine hKK _ _ ?_
    refine wpList_step (fun KK hKK => ?_)
    rw [if_pos (by rfl)]
    go_simp
    (go_at_call 22; refine (HRD.out _ HB3.out).mono ?_; rintro e1 w1 ⟨rfl, hb1⟩)
    refine hKK _ _ ?_
    refine wpList_plain rfl (fun KK hKK => ?_)
    go_simp
    refine hKK _ _ ?_
    refine wpList_plain rfl (fun KK hKK => ?_)
    go_simp
    refine hKK _ _ ?_
    refine wpList_nil ?_
    go_wp2_with fail
    go_ret
    exact ⟨by simp, HB3.out.trans (hb1.mono HB3.out.size)⟩
end Go.Proofs.Ytdjhpajmbddffaa

/- Stage 25: could of a Del, of a write, of the other kinds (written by gen/cok25.py out of XCo25). -/
namespace Go.Proofs.Ytdjhpajmbddffaa
open Go.RowKit

set_option maxRecDepth 100000 in
set_option maxHeartbeats 16000000 in
theorem could_del (kb : Nat) (e : Ev) (w : World) (hkd : e.kd = 2) :
    Calls Try.prog 17 #[.pointer (some ⟨kb, 0, none⟩), .agg e.cs.toArray] w fun e' w' => e' = .returned (.bool (decide (0 < cmp2 e.tm e.tc e.sm e.sc))) ∧ Below w.heap.size w w' := by
  have HBX := Lib.hid (range_new w e.cs 47)
  obtain ⟨X, hX⟩ : ∃ X : Array Value, e.cs.toArray = X := ⟨_, rfl⟩
  rw [hX] at HBX ⊢
  go_enter Try.func17, Try.ntmps17
  go_upto_region 1 with fail
  go_cut [5, 6] from 11 to 14 (fun p5 p6 wx => ∃ s q, p5 = .pointer (some ⟨s, 0, none⟩) ∧ p6 = .pointer (some ⟨q, 0, none⟩) ∧ wx.rangeAt s 0 e.st ∧ wx.rangeAt q 0 e.an_ ∧ s < wx.heap.size ∧ q < wx.heap.size ∧ w.heap.size ≤ s ∧ w.heap.size ≤ q ∧ Below w.heap.size w wx)
  case first =>
    obtain ⟨V0, hV0⟩ : ∃ V, w.alloc (.cells X 47) = V := ⟨_, rfl⟩
    have HB0 : Hid (Below w.heap.size w V0) := Lib.hid (by rw [← hV0]; exact (Below.refl _ _).alloc (Nat.le_refl _) _)
    have r10 : V0.rangeAt w.heap.size 1 e.st := by rw [← hV0]; exact range_part HBX.out 1 10
    have r20 : V0.rangeAt w.heap.size 11 e.an_ := by rw [← hV0]; exact range_part HBX.out 11 7
    have lb0 : w.heap.size < V0.heap.size := by rw [← hV0]; simp
    rw [hV0]
    clear hV0 HBX
    refine wp_region_held_drew (S := fun w' => w'.rangeAt w.heap.size 1 e.st ∧ w'.rangeAt w.heap.size 11 e.an_) (by kernel_rfl) ?_ (fun hHeld => ?_)
    · exact ⟨r10, r20⟩
    have k1 : Below V0.heap.size V0 V0.drew := (Below.refl _ _).drew
    obtain ⟨V1, hV1⟩ : ∃ V1, V0.drew = V1 := ⟨_, rfl⟩
    rw [hV1] at k1 hHeld ⊢
    clear hV1
    have r11 := range_below r10 k1 lb0
    have r21 := range_below r20 k1 lb0
    have lb1 := Nat.lt_of_lt_of_le lb0 k1.size
    have HB1 := Lib.hid (HB0.out.trans (k1.mono HB0.out.size))
    clear k1 HB0 r10 r20
    refine tk9 0 ?_
    refine tk9 1 (hy := yieldsIf_load_mid (by rfl) 41 (.tmp 11) rfl w.heap.size 1 rfl e.st _ (fun w' hw => hw.1) Try.underlying41 rfl st_info) ?_
    refine tk9 2 ?_
    refine tk9 3 (hy := yieldsIf_load_mid (by rfl) 45 (.tmp 13) rfl w.heap.size 11 rfl e.an_ _ (fun w' hw => hw.2) Try.underlying45 rfl an_info) ?_
    clear lb0
    refine wpAnyH_ready (rs := [4, 5]) (by kernel_rfl) (by simp) ?_
    refine AllReadyH.cons rfl (fun K hK => ?_) (AllReadyH.cons rfl (fun K hK => ?_) (AllReadyH.nil))
    · go_simp
      (try dsimp only)
      obtain ⟨V2, hV2⟩ : ∃ V, V1.alloc (.cells #[.int .i64 0, .int .i64 0, .int .i64 0, .int .i64 0, .int .u8 0, .int .i64 0, .int .i64 0, .string ⟨#[]⟩, .string ⟨#[]⟩, .slice none 0 0] 41) = V := ⟨_, rfl⟩
      have k2 : Below V1.heap.size V1 V2 := by rw [← hV2]; exact (Below.refl _ _).alloc (Nat.le_refl _) _
      have fs2 : V2.there V1.heap.size 0 10 := by rw [← hV2]; exact there_new V1 _ _
      have ls2 : V1.heap.size < V2.heap.size := by rw [← hV2]; simp
      rw [hV2]
      clear hV2
      have r12 := range_below r11 k2 lb1
      have r22 := range_below r21 k2 lb1
      have lb2 := Nat.lt_of_lt_of_le lb1 k2.size
      have HB2 := Lib.hid (HB1.out.trans (k2.mono HB1.out.size))
      have ws : w.heap.size ≤ V1.heap.size := HB1.out.size
      have xs : w.heap.size < V1.heap.size := lb1
      refine hK.out _ _ ?_ (fun hHeld => ?_)
      · exact ⟨r12, r22⟩
      clear hK K k2 r11 r21
      (try simp only [Act.put, List.setIfInBounds_toArray, List.set_cons_zero, List.set_cons_succ, List.getElem_toArray, List.getElem_cons_succ, List.getElem_cons_zero])
      generalize V1.heap.size = s at *
      refine wpAnyH_ready (rs := [5]) (by kernel_rfl) (by simp) ?_
      refine AllReadyH.cons rfl (fun K hK => ?_) (AllReadyH.nil)
      go_simp
      (try dsimp only)
      obtain ⟨V3, hV3⟩ : ∃ V, V2.alloc (.cells #[.int .i64 0, .int .i64 0, .int .i64 0, .int .i64 0, .bool false, .slice none 0 0, .slice none 0 0] 45) = V := ⟨_, rfl⟩
      have k3 : Below V2.heap.size V2 V3 := by rw [← hV3]; exact (Below.refl _ _).alloc (Nat.le_refl _) _
      have fq3 : V3.there V2.heap.size 0 7 := by rw [← hV3]; exact there_new V2 _ _
      have lq3 : V2.heap.size < V3.heap.size := by rw [← hV3]; simp
      rw [hV3]
      clear hV3
      have fs3 := there_below fs2 k3 ls2
      have ls3 := Nat.lt_of_lt_of_le ls2 k3.size
      have hn3 : s ≠ V2.heap.size := Nat.ne_of_lt ls2
      have r13 := range_below r12 k3 lb2
      have r23 := range_below r22 k3 lb2
      have lw.heap.size := Nat.lt_of_lt_of_le lb2 k3.size
      have HB3 := Lib.hid (HB2.out.trans (k3.mono HB2.out.size))
      have wq : w.heap.size ≤ V2.heap.size := HB2.out.size
      have xq : w.heap.size < V2.heap.size := lb2
      refine hK.out _ _ ?_ (fun hHeld => ?_)
      · exact ⟨r13, r23⟩
      clear hK K k3 r12 r22
      (try simp only [Act.put, List.setIfInBounds_toArray, List.set_cons_zero, List.set_cons_succ, List.getElem_toArray, List.getElem_cons_succ, List.getElem_cons_zero])
      generalize V2.heap.size = q at *
      refine wpAnyH_ready (rs := [6]) (by kernel_rfl) (by simp) ?_
      refine AllReadyH.cons rfl (fun K hK => ?_) (AllReadyH.nil)
      rw [if_pos (by rfl)]
      refine wp_store_mid 41 (.tmp 5) (.tmp 12) rfl s 0 e.st.toArray rfl rfl fs3 st_info e.st_one ?_
      obtain ⟨V4, hV4⟩ : ∃ V, V3.setCells s 0 e.st.toArray.toList = V := ⟨_, rfl⟩
      have HB4 : Hid (Below w.heap.size w V4) := Lib.hid (by rw [← hV4]; exact below_setCells _ _ ws _ _ _ _ HB3.out)
      have fs4 : V4.rangeAt s 0 e.st := by rw [← hV4]; exact World.rangeAt_setCells_same V3 s 0 e.st fs3
      have ls4 : s < V4.heap.size := by rw [← hV4, setCells_size]; exact ls3
      have lb4 : w.heap.size < V4.heap.size := by rw [← hV4, setCells_size]; exact lw.heap.size
      have r14 : V4.rangeAt w.heap.size 1 e.st := by rw [← hV4]; exact World.rangeAt_setCells_apart r13 s 0 _ (.inl (Nat.ne_of_lt xs))
      have r24 : V4.rangeAt w.heap.size 11 e.an_ := by rw [← hV4]; exact World.rangeAt_setCells_apart r23 s 0 _ (.inl (Nat.ne_of_lt xs))
      have fq4 : V4.there q 0 7 := by rw [← hV4]; exact World.there_setCells fq3 s 0 _
      have lq4 : q < V4.heap.size := by rw [← hV4, setCells_size]; exact lq3
      rw [hV4]
      refine hK.out _ _ ?_ (fun hHeld => ?_)
      · exact ⟨r14, r24⟩
      clear hK K hV4 r13 r23
      (try simp only [Act.put, List.setIfInBounds_toArray, List.set_cons_zero, List.set_cons_succ, List.getElem_toArray, List.getElem_cons_succ, List.getElem_cons_zero])
      refine wpAnyH_ready (rs := [7]) (by kernel_rfl) (by simp) ?_
      refine AllReadyH.cons rfl (fun K hK => ?_) (AllReadyH.nil)
      rw [if_pos (by rfl)]
      refine wp_store_mid 45 (.tmp 6) (.tmp 14) rfl q 0 e.an_.toArray rfl rfl fq4 an_info e.an_one ?_
      obtain ⟨V5, hV5⟩ : ∃ V, V4.setCells q 0 e.an_.toArray.toList = V := ⟨_, rfl⟩
      have HB5 : Hid (Below w.heap.size w V5) := Lib.hid (by rw [← hV5]; exact below_setCells _ _ wq _ _ _ _ HB4.out)
      have fq5 : V5.rangeAt q 0 e.an_ := by rw [← hV5]; exact World.rangeAt_setCells_same V4 q 0 e.an_ fq4
      have lq5 : q < V5.heap.size := by rw [← hV5, setCells_size]; exact lq4
      have lb5 : w.heap.size < V5.heap.size := by rw [← hV5, setCells_size]; exact lb4
      have r15 : V5.rangeAt w.heap.size 1 e.st := by rw [← hV5]; exact World.rangeAt_setCells_apart r14 q 0 _ (.inl (Nat.ne_of_lt xq))
      have r25 : V5.rangeAt w.heap.size 11 e.an_ := by rw [← hV5]; exact World.rangeAt_setCells_apart r24 q 0 _ (.inl (Nat.ne_of_lt xq))
      have fs5 : V5.rangeAt s 0 e.st := by rw [← hV5]; exact World.rangeAt_setCells_apart fs4 q 0 _ (.inl (by omega))
      have ls5 : s < V5.heap.size := by rw [← hV5, setCells_size]; exact ls4
      rw [hV5]
      refine hK.out _ _ ?_ (fun hHeld => ?_)
      · exact ⟨r15, r25⟩
      clear hK K hV5 r14 r24
      (try simp only [Act.put, List.setIfInBounds_toArray, List.set_cons_zero, List.set_cons_succ, List.getElem_toArray, List.getElem_cons_succ, List.getElem_cons_zero])
      refine wpAnyH_done (by kernel_rfl) ?_ _
      go_wp2_with fail
      go_meet
      exact ⟨s, q, rfl, rfl, fs5, fq5, ls5, lq5, ws, wq, HB5.out⟩
    · go_simp
      (try dsimp only)
      obtain ⟨V2, hV2⟩ : ∃ V, V1.alloc (.cells #[.int .i64 0, .int .i64 0, .int .i64 0, .int .i64 0, .bool false, .slice none 0 0, .slice none 0 0] 45) = V := ⟨_, rfl⟩
      have k2 : Below V1.heap.size V1 V2 := by rw [← hV2]; exact (Below.refl _ _).alloc (Nat.le_refl _) _
      have fq2 : V2.there V1.heap.size 0 7 := by rw [← hV2]; exact there_new V1 _ _
      have lq2 : V1.heap.size < V2.heap.size := by rw [← hV2]; simp
      rw [hV2]
      clear hV2
      have r12 := range_below r11 k2 lb1
      have r22 := range_below r21 k2 lb1
      have lb2 := Nat.lt_of_lt_of_le lb1 k2.size
      have HB2 := Lib.hid (HB1.out.trans (k2.mono HB1.out.size))
      have wq : w.heap.size ≤ V1.heap.size := HB1.out.size
      have xq : w.heap.size < V1.heap.size := lb1
      refine hK.out _ _ ?_ (fun hHeld => ?_)
      · exact ⟨r12, r22⟩
      clear hK K k2 r11 r21
      (try simp only [Act.put, List.setIfInBounds_toArray, List.set_cons_zero, List.set_cons_succ, List.getElem_toArray, List.getElem_cons_succ, List.getElem_cons_zero])
      generalize V1.heap.size = q at *
      refine wpAnyH_ready (rs := [4]) (by kernel_rfl) (by simp) ?_
      refine AllReadyH.cons rfl (fun K hK => ?_) (AllReadyH.nil)
      go_simp
      (try dsimp only)
      obtain ⟨V3, hV3⟩ : ∃ V, V2.alloc (.cells #[.int .i64 0, .int .i64 0, .int .i64 0, .int .i64 0, .int .u8 0, .int .i64 0, .int .i64 0, .string ⟨#[]⟩, .string ⟨#[]⟩, .slice none 0 0] 41) = V := ⟨_, rfl⟩
      have k3 : Below V2.heap.size V2 V3 := by rw [← hV3]; exact (Below.refl _ _).alloc (Nat.le_refl _) _
      have fs3 : V3.there V2.heap.size 0 10 := by rw [← hV3]; exact there_new V2 _ _
      have ls3 : V2.heap.size < V3.heap.size := by rw [← hV3]; simp
      rw [hV3]
      clear hV3
      have fq3 := there_below fq2 k3 lq2
      have lq3 := Nat.lt_of_lt_of_le lq2 k3.size
      have hn3 : q ≠ V2.heap.size := Nat.ne_of_lt lq2
      have r13 := range_below r12 k3 lb2
      have r23 := range_below r22 k3 lb2
      have lw.heap.size := Nat.lt_of_lt_of_le lb2 k3.size
      have HB3 := Lib.hid (HB2.out.trans (k3.mono HB2.out.size))
      have ws : w.heap.size ≤ V2.heap.size := HB2.out.size
      have xs : w.heap.size < V2.heap.size := lb2
      refine hK.out _ _ ?_ (fun hHeld => ?_)
      · exact ⟨r13, r23⟩
      clear hK K k3 r12 r22
      (try simp only [Act.put, List.setIfInBounds_toArray, List.set_cons_zero, List.set_cons_succ, List.getElem_toArray, List.getElem_cons_succ, List.getElem_cons_zero])
      generalize V2.heap.size = s at *
      refine wpAnyH_ready (rs := [6]) (by kernel_rfl) (by simp) ?_
      refine AllReadyH.cons rfl (fun K hK => ?_) (AllReadyH.nil)
      rw [if_pos (by rfl)]
      refine wp_store_mid 41 (.tmp 5) (.tmp 12) rfl s 0 e.st.toArray rfl rfl fs3 st_info e.st_one ?_
      obtain ⟨V4, hV4⟩ : ∃ V, V3.setCells s 0 e.st.toArray.toList = V := ⟨_, rfl⟩
      have HB4 : Hid (Below w.heap.size w V4) := Lib.hid (by rw [← hV4]; exact below_setCells _ _ ws _ _ _ _ HB3.out)
      have fs4 : V4.rangeAt s 0 e.st := by rw [← hV4]; exact World.rangeAt_setCells_same V3 s 0 e.st fs3
      have ls4 : s < V4.heap.size := by rw [← hV4, setCells_size]; exact ls3
      have lb4 : w.heap.size < V4.heap.size := by rw [← hV4, setCells_size]; exact lw.heap.size
      have r14 : V4.rangeAt w.heap.size 1 e.st := by rw [← hV4]; exact World.rangeAt_setCells_apart r13 s 0 _ (.inl (Nat.ne_of_lt xs))
      have r24 : V4.rangeAt w.heap.size 11 e.an_ := by rw [← hV4]; exact World.rangeAt_setCells_apart r23 s 0 _ (.inl (Nat.ne_of_lt xs))
      have fq4 : V4.there q 0 7 := by rw [← hV4]; exact World.there_setCells fq3 s 0 _
      have lq4 : q < V4.heap.size := by rw [← hV4, setCells_size]; exact lq3
      rw [hV4]
      refine hK.out _ _ ?_ (fun hHeld => ?_)
      · exact ⟨r14, r24⟩
      clear hK K hV4 r13 r23
      (try simp only [Act.put, List.setIfInBounds_toArray, List.set_cons_zero, List.set_cons_succ, List.getElem_toArray, List.getElem_cons_succ, List.getElem_cons_zero])
      refine wpAnyH_ready (rs := [7]) (by kernel_rfl) (by simp) ?_
      refine AllReadyH.cons rfl (fun K hK => ?_) (AllReadyH.nil)
      rw [if_pos (by rfl)]
      refine wp_store_mid 45 (.tmp 6) (.tmp 14) rfl q 0 e.an_.toArray rfl rfl fq4 an_info e.an_one ?_
      obtain ⟨V5, hV5⟩ : ∃ V, V4.setCells q 0 e.an_.toArray.toList = V := ⟨_, rfl⟩
      have HB5 : Hid (Below w.heap.size w V5) := Lib.hid (by rw [← hV5]; exact below_setCells _ _ wq _ _ _ _ HB4.out)
      have fq5 : V5.rangeAt q 0 e.an_ := by rw [← hV5]; exact World.rangeAt_setCells_same V4 q 0 e.an_ fq4
      have lq5 : q < V5.heap.size := by rw [← hV5, setCells_size]; exact lq4
      have lb5 : w.heap.size < V5.heap.size := by rw [← hV5, setCells_size]; exact lb4
      have r15 : V5.rangeAt w.heap.size 1 e.st := by rw [← hV5]; exact World.rangeAt_setCells_apart r14 q 0 _ (.inl (Nat.ne_of_lt xq))
      have r25 : V5.rangeAt w.heap.size 11 e.an_ := by rw [← hV5]; exact World.rangeAt_setCells_apart r24 q 0 _ (.inl (Nat.ne_of_lt xq))
      have fs5 : V5.rangeAt s 0 e.st := by rw [← hV5]; exact World.rangeAt_setCells_apart fs4 q 0 _ (.inl (by omega))
      have ls5 : s < V5.heap.size := by rw [← hV5, setCells_size]; exact ls4
      rw [hV5]
      refine hK.out _ _ ?_ (fun hHeld => ?_)
      · exact ⟨r15, r25⟩
      clear hK K hV5 r14 r24
      (try simp only [Act.put, List.setIfInBounds_toArray, List.set_cons_zero, List.set_cons_succ, List.getElem_toArray, List.getElem_cons_succ, List.getElem_cons_zero])
      refine wpAnyH_done (by kernel_rfl) ?_ _
      go_wp2_with fail
      go_meet
      exact ⟨s, q, rfl, rfl, fs5, fq5, ls5, lq5, ws, wq, HB5.out⟩
  case rest =>
  obtain ⟨s, q, rfl, rfl, hs, hq, hls, hlq, _, _, hb⟩ := hcut
  have HB := Lib.hid hb
  have HC := Lib.hid (fun W : World => hlc_compare e.tm e.tc e.sm e.sc W)
  have s0 : wc.cell? ⟨s, 0, none⟩ = some (.int .i64 2) := by rw [← hkd]; exact hs 0 _ rfl
  have s5 : wc.cell? ⟨s, 5, none⟩ = some (.int .i64 e.sm) := hs 5 _ rfl
  have s6 : wc.cell? ⟨s, 6, none⟩ = some (.int .i64 e.sc) := hs 6 _ rfl
  have q2 : wc.cell? ⟨q, 2, none⟩ = some (.int .i64 e.tm) := hq 2 _ rfl
  have q3 : wc.cell? ⟨q, 3, none⟩ = some (.int .i64 e.tc) := hq 3 _ rfl
  clear hs hq hb hls hlq HBX hX
  go_wp2_with (go_at_call 20; refine (HC.out _).mono ?_; rintro e1 w1 ⟨rfl, hb1⟩)
  go_ret
  exact ⟨rfl, HB.out.trans (hb1.mono HB.out.size)⟩
set_option maxRecDepth 100000 in
set_option maxHeartbeats 16000000 in
theorem could_no (kb : Nat) (e : Ev) (w : World) (n1 : (e.kd == 1) = false) (n2 : (e.kd == 2) = false) (n3 : (e.kd == 3) = false) (n4 : (e.kd == 4) = false) (n5 : (e.kd == 5) = false) :
    Calls Try.prog 17 #[.pointer (some ⟨kb, 0, none⟩), .agg e.cs.toArray] w fun e' w' => e' = .returned (.bool true) ∧ Below w.heap.size w w' := by
  have HBX := Lib.hid (range_new w e.cs 47)
  obtain ⟨X, hX⟩ : ∃ X : Array Value, e.cs.toArray = X := ⟨_, rfl⟩
  rw [hX] at HBX ⊢
  go_enter Try.func17, Try.ntmps17
  go_upto_region 1 with fail
  go_cut [5, 6] from 11 to 14 (fun p5 p6 wx => ∃ s q, p5 = .pointer (some ⟨s, 0, none⟩) ∧ p6 = .pointer (some ⟨q, 0, none⟩) ∧ wx.rangeAt s 0 e.st ∧ wx.rangeAt q 0 e.an_ ∧ s < wx.heap.size ∧ q < wx.heap.size ∧ w.heap.size ≤ s ∧ w.heap.size ≤ q ∧ Below w.heap.size w wx)
  case first =>
    obtain ⟨V0, hV0⟩ : ∃ V, w.alloc (.cells X 47) = V := ⟨_, rfl⟩
    have HB0 : Hid (Below w.heap.size w V0) := Lib.hid (by rw [← hV0]; exact (Below.refl _ _).alloc (Nat.le_refl _) _)
    have r10 : V0.rangeAt w.heap.size 1 e.st := by rw [← hV0]; exact range_part HBX.out 1 10
    have r20 : V0.rangeAt w.heap.size 11 e.an_ := by rw [← hV0]; exact range_part HBX.out 11 7
    have lb0 : w.heap.size < V0.heap.size := by rw [← hV0]; simp
    rw [hV0]
    clear hV0 HBX
    refine wp_region_held_drew (S := fun w' => w'.rangeAt w.heap.size 1 e.st ∧ w'.rangeAt w.heap.size 11 e.an_) (by kernel_rfl) ?_ (fun hHeld => ?_)
    · exact ⟨r10, r20⟩
    have k1 : Below V0.heap.size V0 V0.drew := (Below.refl _ _).drew
    obtain ⟨V1, hV1⟩ : ∃ V1, V0.drew = V1 := ⟨_, rfl⟩
    rw [hV1] at k1 hHeld ⊢
    clear hV1
    have r11 := range_below r10 k1 lb0
    have r21 := range_below r20 k1 lb0
    have lb1 := Nat.lt_of_lt_of_le lb0 k1.size
    have HB1 := Lib.hid (HB0.out.trans (k1.mono HB0.out.size))
    clear k1 HB0 r10 r20
    refine tk9 0 ?_
    refine tk9 1 (hy := yieldsIf_load_mid (by rfl) 41 (.tmp 11) rfl w.heap.size 1 rfl e.st _ (fun w' hw => hw.1) Try.underlying41 rfl st_info) ?_
    refine tk9 2 ?_
    refine tk9 3 (hy := yieldsIf_load_mid (by rfl) 45 (.tmp 13) rfl w.heap.size 11 rfl e.an_ _ (fun w' hw => hw.2) Try.underlying45 rfl an_info) ?_
    clear lb0
    refine wpAnyH_ready (rs := [4, 5]) (by kernel_rfl) (by simp) ?_
    refine AllReadyH.cons rfl (fun K hK => ?_) (AllReadyH.cons rfl (fun K hK => ?_) (AllReadyH.nil))
    · go_simp
      (try dsimp only)
      obtain ⟨V2, hV2⟩ : ∃ V, V1.alloc (.cells #[.int .i64 0, .int .i64 0, .int .i64 0, .int .i64 0, .int .u8 0, .int .i64 0, .int .i64 0, .string ⟨#[]⟩, .string ⟨#[]⟩, .slice none 0 0] 41) = V := ⟨_, rfl⟩
      have k2 : Below V1.heap.size V1 V2 := by rw [← hV2]; exact (Below.refl _ _).alloc (Nat.le_refl _) _
      have fs2 : V2.there V1.heap.size 0 10 := by rw [← hV2]; exact there_new V1 _ _
      have ls2 : V1.heap.size < V2.heap.size := by rw [← hV2]; simp
      rw [hV2]
      clear hV2
      have r12 := range_below r11 k2 lb1
      have r22 := range_below r21 k2 lb1
      have lb2 := Nat.lt_of_lt_of_le lb1 k2.size
      have HB2 := Lib.hid (HB1.out.trans (k2.mono HB1.out.size))
      have ws : w.heap.size ≤ V1.heap.size := HB1.out.size
      have xs : w.heap.size < V1.heap.size := lb1
      refine hK.out _ _ ?_ (fun hHeld => ?_)
      · exact ⟨r12, r22⟩
      clear hK K k2 r11 r21
      (try simp only [Act.put, List.setIfInBounds_toArray, List.set_cons_zero, List.set_cons_succ, List.getElem_toArray, List.getElem_cons_succ, List.getElem_cons_zero])
      generalize V1.heap.size = s at *
      refine wpAnyH_ready (rs := [5]) (by kernel_rfl) (by simp) ?_
      refine AllReadyH.cons rfl (fun K hK => ?_) (AllReadyH.nil)
      go_simp
      (try dsimp only)
      obtain ⟨V3, hV3⟩ : ∃ V, V2.alloc (.cells #[.int .i64 0, .int .i64 0, .int .i64 0, .int .i64 0, .bool false, .slice none 0 0, .slice none 0 0] 45) = V := ⟨_, rfl⟩
      have k3 : Below V2.heap.size V2 V3 := by rw [← hV3]; exact (Below.refl _ _).alloc (Nat.le_refl _) _
      have fq3 : V3.there V2.heap.size 0 7 := by rw [← hV3]; exact there_new V2 _ _
      have lq3 : V2.heap.size < V3.heap.size := by rw [← hV3]; simp
      rw [hV3]
      clear hV3
      have fs3 := there_below fs2 k3 ls2
      have ls3 := Nat.lt_of_lt_of_le ls2 k3.size
      have hn3 : s ≠ V2.heap.size := Nat.ne_of_lt ls2
      have r13 := range_below r12 k3 lb2
      have r23 := range_below r22 k3 lb2
      have lw.heap.size := Nat.lt_of_lt_of_le lb2 k3.size
      have HB3 := Lib.hid (HB2.out.trans (k3.mono HB2.out.size))
      have wq : w.heap.size ≤ V2.heap.size := HB2.out.size
      have xq : w.heap.size < V2.heap.size := lb2
      refine hK.out _ _ ?_ (fun hHeld => ?_)
      · exact ⟨r13, r23⟩
      clear hK K k3 r12 r22
      (try simp only [Act.put, List.setIfInBounds_toArray, List.set_cons_zero, List.set_cons_succ, List.getElem_toArray, List.getElem_cons_succ, List.getElem_cons_zero])
      generalize V2.heap.size = q at *
      refine wpAnyH_ready (rs := [6]) (by kernel_rfl) (by simp) ?_
      refine AllReadyH.cons rfl (fun K hK => ?_) (AllReadyH.nil)
      rw [if_pos (by rfl)]
      refine wp_store_mid 41 (.tmp 5) (.tmp 12) rfl s 0 e.st.toArray rfl rfl fs3 st_info e.st_one ?_
      obtain ⟨V4, hV4⟩ : ∃ V, V3.setCells s 0 e.st.toArray.toList = V := ⟨_, rfl⟩
      have HB4 : Hid (Below w.heap.size w V4) := Lib.hid (by rw [← hV4]; exact below_setCells _ _ ws _ _ _ _ HB3.out)
      have fs4 : V4.rangeAt s 0 e.st := by rw [← hV4]; exact World.rangeAt_setCells_same V3 s 0 e.st fs3
      have ls4 : s < V4.heap.size := by rw [← hV4, setCells_size]; exact ls3
      have lb4 : w.heap.size < V4.heap.size := by rw [← hV4, setCells_size]; exact lw.heap.size
      have r14 : V4.rangeAt w.heap.size 1 e.st := by rw [← hV4]; exact World.rangeAt_setCells_apart r13 s 0 _ (.inl (Nat.ne_of_lt xs))
      have r24 : V4.rangeAt w.heap.size 11 e.an_ := by rw [← hV4]; exact World.rangeAt_setCells_apart r23 s 0 _ (.inl (Nat.ne_of_lt xs))
      have fq4 : V4.there q 0 7 := by rw [← hV4]; exact World.there_setCells fq3 s 0 _
      have lq4 : q < V4.heap.size := by rw [← hV4, setCells_size]; exact lq3
      rw [hV4]
      refine hK.out _ _ ?_ (fun hHeld => ?_)
      · exact ⟨r14, r24⟩
      clear hK K hV4 r13 r23
      (try simp only [Act.put, List.setIfInBounds_toArray, List.set_cons_zero, List.set_cons_succ, List.getElem_toArray, List.getElem_cons_succ, List.getElem_cons_zero])
      refine wpAnyH_ready (rs := [7]) (by kernel_rfl) (by simp) ?_
      refine AllReadyH.cons rfl (fun K hK => ?_) (AllReadyH.nil)
      rw [if_pos (by rfl)]
      refine wp_store_mid 45 (.tmp 6) (.tmp 14) rfl q 0 e.an_.toArray rfl rfl fq4 an_info e.an_one ?_
      obtain ⟨V5, hV5⟩ : ∃ V, V4.setCells q 0 e.an_.toArray.toList = V := ⟨_, rfl⟩
      have HB5 : Hid (Below w.heap.size w V5) := Lib.hid (by rw [← hV5]; exact below_setCells _ _ wq _ _ _ _ HB4.out)
      have fq5 : V5.rangeAt q 0 e.an_ := by rw [← hV5]; exact World.rangeAt_setCells_same V4 q 0 e.an_ fq4
      have lq5 : q < V5.heap.size := by rw [← hV5, setCells_size]; exact lq4
      have lb5 : w.heap.size < V5.heap.size := by rw [← hV5, setCells_size]; exact lb4
      have r15 : V5.rangeAt w.heap.size 1 e.st := by rw [← hV5]; exact World.rangeAt_setCells_apart r14 q 0 _ (.inl (Nat.ne_of_lt xq))
      have r25 : V5.rangeAt w.heap.size 11 e.an_ := by rw [← hV5]; exact World.rangeAt_setCells_apart r24 q 0 _ (.inl (Nat.ne_of_lt xq))
      have fs5 : V5.rangeAt s 0 e.st := by rw [← hV5]; exact World.rangeAt_setCells_apart fs4 q 0 _ (.inl (by omega))
      have ls5 : s < V5.heap.size := by rw [← hV5, setCells_size]; exact ls4
      rw [hV5]
      refine hK.out _ _ ?_ (fun hHeld => ?_)
      · exact ⟨r15, r25⟩
      clear hK K hV5 r14 r24
      (try simp only [Act.put, List.setIfInBounds_toArray, List.set_cons_zero, List.set_cons_succ, List.getElem_toArray, List.getElem_cons_succ, List.getElem_cons_zero])
      refine wpAnyH_done (by kernel_rfl) ?_ _
      go_wp2_with fail
      go_meet
      exact ⟨s, q, rfl, rfl, fs5, fq5, ls5, lq5, ws, wq, HB5.out⟩
    · go_simp
      (try dsimp only)
      obtain ⟨V2, hV2⟩ : ∃ V, V1.alloc (.cells #[.int .i64 0, .int .i64 0, .int .i64 0, .int .i64 0, .bool false, .slice none 0 0, .slice none 0 0] 45) = V := ⟨_, rfl⟩
      have k2 : Below V1.heap.size V1 V2 := by rw [← hV2]; exact (Below.refl _ _).alloc (Nat.le_refl _) _
      have fq2 : V2.there V1.heap.size 0 7 := by rw [← hV2]; exact there_new V1 _ _
      have lq2 : V1.heap.size < V2.heap.size := by rw [← hV2]; simp
      rw [hV2]
      clear hV2
      have r12 := range_below r11 k2 lb1
      have r22 := range_below r21 k2 lb1
      have lb2 := Nat.lt_of_lt_of_le lb1 k2.size
      have HB2 := Lib.hid (HB1.out.trans (k2.mono HB1.out.size))
      have wq : w.heap.size ≤ V1.heap.size := HB1.out.size
      have xq : w.heap.size < V1.heap.size := lb1
      refine hK.out _ _ ?_ (fun hHeld => ?_)
      · exact ⟨r12, r22⟩
      clear hK K k2 r11 r21
      (try simp only [Act.put, List.setIfInBounds_toArray, List.set_cons_zero, List.set_cons_succ, List.getElem_toArray, List.getElem_cons_succ, List.getElem_cons_zero])
      generalize V1.heap.size = q at *
      refine wpAnyH_ready (rs := [4]) (by kernel_rfl) (by simp) ?_
      refine AllReadyH.cons rfl (fun K hK => ?_) (AllReadyH.nil)
      go_simp
      (try dsimp only)
      obtain ⟨V3, hV3⟩ : ∃ V, V2.alloc (.cells #[.int .i64 0, .int .i64 0, .int .i64 0, .int .i64 0, .int .u8 0, .int .i64 0, .int .i64 0, .string ⟨#[]⟩, .string ⟨#[]⟩, .slice none 0 0] 41) = V := ⟨_, rfl⟩
      have k3 : Below V2.heap.size V2 V3 := by rw [← hV3]; exact (Below.refl _ _).alloc (Nat.le_refl _) _
      have fs3 : V3.there V2.heap.size 0 10 := by rw [← hV3]; exact there_new V2 _ _
      have ls3 : V2.heap.size < V3.heap.size := by rw [← hV3]; simp
      rw [hV3]
      clear hV3
      have fq3 := there_below fq2 k3 lq2
      have lq3 := Nat.lt_of_lt_of_le lq2 k3.size
      have hn3 : q ≠ V2.heap.size := Nat.ne_of_lt lq2
      have r13 := range_below r12 k3 lb2
      have r23 := range_below r22 k3 lb2
      have lw.heap.size := Nat.lt_of_lt_of_le lb2 k3.size
      have HB3 := Lib.hid (HB2.out.trans (k3.mono HB2.out.size))
      have ws : w.heap.size ≤ V2.heap.size := HB2.out.size
      have xs : w.heap.size < V2.heap.size := lb2
      refine hK.out _ _ ?_ (fun hHeld => ?_)
      · exact ⟨r13, r23⟩
      clear hK K k3 r12 r22
      (try simp only [Act.put, List.setIfInBounds_toArray, List.set_cons_zero, List.set_cons_succ, List.getElem_toArray, List.getElem_cons_succ, List.getElem_cons_zero])
      generalize V2.heap.size = s at *
      refine wpAnyH_ready (rs := [6]) (by kernel_rfl) (by simp) ?_
      refine AllReadyH.cons rfl (fun K hK => ?_) (AllReadyH.nil)
      rw [if_pos (by rfl)]
      refine wp_store_mid 41 (.tmp 5) (.tmp 12) rfl s 0 e.st.toArray rfl rfl fs3 st_info e.st_one ?_
      obtain ⟨V4, hV4⟩ : ∃ V, V3.setCells s 0 e.st.toArray.toList = V := ⟨_, rfl⟩
      have HB4 : Hid (Below w.heap.size w V4) := Lib.hid (by rw [← hV4]; exact below_setCells _ _ ws _ _ _ _ HB3.out)
      have fs4 : V4.rangeAt s 0 e.st := by rw [← hV4]; exact World.rangeAt_setCells_same V3 s 0 e.st fs3
      have ls4 : s < V4.heap.size := by rw [← hV4, setCells_size]; exact ls3
      have lb4 : w.heap.size < V4.heap.size := by rw [← hV4, setCells_size]; exact lw.heap.size
      have r14 : V4.rangeAt w.heap.size 1 e.st := by rw [← hV4]; exact World.rangeAt_setCells_apart r13 s 0 _ (.inl (Nat.ne_of_lt xs))
      have r24 : V4.rangeAt w.heap.size 11 e.an_ := by rw [← hV4]; exact World.rangeAt_setCells_apart r23 s 0 _ (.inl (Nat.ne_of_lt xs))
      have fq4 : V4.there q 0 7 := by rw [← hV4]; exact World.there_setCells fq3 s 0 _
      have lq4 : q < V4.heap.size := by rw [← hV4, setCells_size]; exact lq3
      rw [hV4]
      refine hK.out _ _ ?_ (fun hHeld => ?_)
      · exact ⟨r14, r24⟩
      clear hK K hV4 r13 r23
      (try simp only [Act.put, List.setIfInBounds_toArray, List.set_cons_zero, List.set_cons_succ, List.getElem_toArray, List.getElem_cons_succ, List.getElem_cons_zero])
      refine wpAnyH_ready (rs := [7]) (by kernel_rfl) (by simp) ?_
      refine AllReadyH.cons rfl (fun K hK => ?_) (AllReadyH.nil)
      rw [if_pos (by rfl)]
      refine wp_store_mid 45 (.tmp 6) (.tmp 14) rfl q 0 e.an_.toArray rfl rfl fq4 an_info e.an_one ?_
      obtain ⟨V5, hV5⟩ : ∃ V, V4.setCells q 0 e.an_.toArray.toList = V := ⟨_, rfl⟩
      have HB5 : Hid (Below w.heap.size w V5) := Lib.hid (by rw [← hV5]; exact below_setCells _ _ wq _ _ _ _ HB4.out)
      have fq5 : V5.rangeAt q 0 e.an_ := by rw [← hV5]; exact World.rangeAt_setCells_same V4 q 0 e.an_ fq4
      have lq5 : q < V5.heap.size := by rw [← hV5, setCells_size]; exact lq4
      have lb5 : w.heap.size < V5.heap.size := by rw [← hV5, setCells_size]; exact lb4
      have r15 : V5.rangeAt w.heap.size 1 e.st := by rw [← hV5]; exact World.rangeAt_setCells_apart r14 q 0 _ (.inl (Nat.ne_of_lt xq))
      have r25 : V5.rangeAt w.heap.size 11 e.an_ := by rw [← hV5]; exact World.rangeAt_setCells_apart r24 q 0 _ (.inl (Nat.ne_of_lt xq))
      have fs5 : V5.rangeAt s 0 e.st := by rw [← hV5]; exact World.rangeAt_setCells_apart fs4 q 0 _ (.inl (by omega))
      have ls5 : s < V5.heap.size := by rw [← hV5, setCells_size]; exact ls4
      rw [hV5]
      refine hK.out _ _ ?_ (fun hHeld => ?_)
      · exact ⟨r15, r25⟩
      clear hK K hV5 r14 r24
      (try simp only [Act.put, List.setIfInBounds_toArray, List.set_cons_zero, List.set_cons_succ, List.getElem_toArray, List.getElem_cons_succ, List.getElem_cons_zero])
      refine wpAnyH_done (by kernel_rfl) ?_ _
      go_wp2_with fail
      go_meet
      exact ⟨s, q, rfl, rfl, fs5, fq5, ls5, lq5, ws, wq, HB5.out⟩
  case rest =>
  obtain ⟨s, q, rfl, rfl, hs, hq, hls, hlq, _, _, hb⟩ := hcut
  have HB := Lib.hid hb
  have s0 : wc.cell? ⟨s, 0, none⟩ = some (.int .i64 e.kd) := hs 0 _ rfl
  clear hs hq hb hls hlq HBX hX
  go_wp2_with fail
  go_ret
  exact ⟨rfl, HB.out⟩
theorem could_write (kb : Nat) (e : Ev) (w : World) (hkd : e.kd = 1 ∨ e.kd = 2) :
    Calls Try.prog 17 #[.pointer (some ⟨kb, 0, none⟩), .agg e.cs.toArray] w fun e' w' => e' = .returned (.bool (decide (0 < cmp2 e.tm e.tc e.sm e.sc))) ∧ Below w.heap.size w w' := by
  rcases hkd with h | h
  · exact could_put kb e w h
  · exact could_del kb e w h
end Go.Proofs.Ytdjhpajmbddffaa

/- Stage 25: what known holds; could of any event. -/
namespace Go.Proofs.Ytdjhpajmbddffaa
open Go.RowKit

theorem cell_map {w : World} {r c i : Nat} {m : Array MapEntry} (h : w.heap[r]? = some (.map m c)) : w.cell? ⟨r, i, none⟩ = none := by
  simp [World.cell?, h]
theorem cell_but {w w' : World} {r c : Nat} {m : Array MapEntry} (hm : w.heap[r]? = some (.map m c)) (k : But (fun i => i = r) w w') {g o : Nat} {v : Value} (h : w.cell? ⟨g, o, none⟩ = some v) : w'.cell? ⟨g, o, none⟩ = some v := by
  have hg : ¬ g = r := by
    rintro rfl
    rw [cell_map hm] at h
    cases h
  rw [k.cell g o (cell_lt h) hg]
  exact h
theorem ByL.kept {w w' : World} {r c : Nat} {m : Array MapEntry} (hm : w.heap[r]? = some (.map m c)) (k : But (fun i => i = r) w w') {A : Option Addr} {p : List Int} (h : ByL w A p) : ByL w' A p := fun h0 => by
  obtain ⟨B, O, h1, h2, h3⟩ := h h0
  exact ⟨B, O, h1, Nat.lt_of_lt_of_le h2 k.size, fun j u hu => cell_but hm k (h3 j u hu)⟩
theorem RowG.kept {α : Type} {f : α → List Value} {w w' : World} {r c : Nat} {m : Array MapEntry} (hm : w.heap[r]? = some (.map m c)) (k : But (fun i => i = r) w w') {A : Option Addr} {L : List α} (h : RowG f w A L) : RowG f w' A L := fun h0 => by
  obtain ⟨B, O, h1, h2, h3⟩ := h h0
  exact ⟨B, O, h1, Nat.lt_of_lt_of_le h2 k.size, fun j u hu => cell_but hm k (h3 j u hu)⟩
theorem StrRow.kept {w w' : World} {r c : Nat} {m : Array MapEntry} (hm : w.heap[r]? = some (.map m c)) (k : But (fun i => i = r) w w') {A : Option Addr} {L : List ByteArray} (h : StrRow w A L) : StrRow w' A L := fun h0 => by
  obtain ⟨B, O, h1, h2, h3⟩ := h h0
  exact ⟨B, O, h1, Nat.lt_of_lt_of_le h2 k.size, fun j u hu => cell_but hm k (h3 j u hu)⟩
theorem RdW.kept {w w' : World} {r c : Nat} {m : Array MapEntry} (hm : w.heap[r]? = some (.map m c)) (k : But (fun i => i = r) w w') {A : Option Addr} {L : List Wq} (h : RdW w A L) : RdW w' A L :=
  ⟨h.row.kept hm k, fun x hx => ⟨(h.by_ x hx).1.kept hm k, (h.by_ x hx).2⟩, h.isb⟩
theorem MapOk.kept {w w' : World} {r c : Nat} {m : Array MapEntry} (hm : w.heap[r]? = some (.map m c)) (k : But (fun i => i = r) w w') {l : List En} {ws : List Wm} (h : MapOk w l ws) : MapOk w' l ws := fun s => by
  obtain ⟨A, c, L, h1, h2, h3⟩ := h s
  exact ⟨A, c, L, h1, h2.kept hm k, h3⟩
theorem EvIn.kept {w w' : World} {r c : Nat} {m : Array MapEntry} (hm : w.heap[r]? = some (.map m c)) (k : But (fun i => i = r) w w') {a : EvA} (h : EvIn w a) : EvIn w' a :=
  { h with vby := h.vby.kept hm k, bby := h.bby.kept hm k, row := h.row.kept hm k, all := fun x hx => ⟨(h.all x hx).1.kept hm k, (h.all x hx).2⟩ }
/-- What known holds. -/
structure Kst (kb r r2 : Nat) (ws : List Wm) (keys : List ByteArray) (S : List Sn × Nat) (w : World) : Prop where
  ex : ∃ (l : List En) (mc : Nat) (KA : Option Addr) (kc : Nat), w.cell? ⟨kb, 0, none⟩ = some (.slice KA keys.length kc) ∧ w.heap[r]? = some (.map (l.map En.e).toArray mc) ∧ MapOk w l ws ∧ StrRow w KA keys
  c1 : w.cell? ⟨kb, 1, none⟩ = some (.map (some r))
  c2 : w.cell? ⟨kb, 2, none⟩ = some (.map (some r2))
  m2 : w.heap[r2]? = some (.map (S.1.map Sn.e).toArray S.2)
  lt : kb < w.heap.size
theorem Kst.below {kb r r2 : Nat} {ws : List Wm} {keys : List ByteArray} {S : List Sn × Nat} {w w' : World} (h : Kst kb r r2 ws keys S w) (k : Below w.heap.size w w') : Kst kb r r2 ws keys S w' := by
  obtain ⟨l, mc, KA, kc, h0, hm, hM, hK⟩ := h.ex
  exact ⟨⟨l, mc, KA, kc, (k.cell (p := ⟨kb, 0, none⟩) h.lt).trans h0, map_but (S := fun _ => False) hm (But.of_below k) (fun h => h), hM.below k, hK.below k⟩,
    (k.cell (p := ⟨kb, 1, none⟩) h.lt).trans h.c1, (k.cell (p := ⟨kb, 2, none⟩) h.lt).trans h.c2, map_but (S := fun _ => False) h.m2 (But.of_below k) (fun h => h), Nat.lt_of_lt_of_le h.lt k.size⟩
theorem Kst.snap {kb r r2 : Nat} {ws : List Wm} {keys : List ByteArray} {S S' : List Sn × Nat} {w w' : World} (h : Kst kb r r2 ws keys S w) (hrr : ¬ r = r2) (k : But (fun i => i = r2) w w') (hm2 : w'.heap[r2]? = some (.map (S'.1.map Sn.e).toArray S'.2)) : Kst kb r r2 ws keys S' w' := by
  obtain ⟨l, mc, KA, kc, h0, hm, hM, hK⟩ := h.ex
  exact ⟨⟨l, mc, KA, kc, cell_but h.m2 k h0, map_but hm k hrr, hM.kept h.m2 k, hK.kept h.m2 k⟩, cell_but h.m2 k h.c1, cell_but h.m2 k h.c2, hm2, Nat.lt_of_lt_of_le h.lt k.size⟩
/-- Could an event be? -/
def couldB (ws : List Wm) (keys : List ByteArray) (S : List Sn × Nat) (a : EvA) : Bool :=
  if a.e.kd = 1 ∨ a.e.kd = 2 then decide (0 < cmp2 a.e.tm a.e.tc a.e.sm a.e.sc)
  else if a.e.kd = 3 then decide (0 ≤ cmp2 a.e.tm a.e.tc a.e.sm a.e.sc)
  else if a.e.kd = 4 then getP ws S.1 a.e a.q
  else if a.e.kd = 5 then scP ws keys S.1 a.e a.Ps
  else true
/-- The snapshots behind an event. -/
def snapS (S : List Sn × Nat) (a : EvA) : List Sn × Nat := if a.e.kd = 3 then updS a.e.nd a.e.an a.e.tm a.e.tc S.1 S.2 else S
theorem could_any (kb r r2 : Nat) (ws : List Wm) (keys : List ByteArray) (S : List Sn × Nat) (a : EvA) (w : World) (h : Kst kb r r2 ws keys S w) (hE : EvIn w a) (hkr : kb ≠ r2) (hrr : ¬ r = r2) (hkl : keys.length ≤ 1000) :
    Calls Try.prog 17 #[.pointer (some ⟨kb, 0, none⟩), .agg a.e.cs.toArray] w fun e' w' => e' = .returned (.bool (couldB ws keys S a)) ∧ But (fun k => k = r2) w w' ∧ Kst kb r r2 ws keys (snapS S a) w' := by
  obtain ⟨l, mc, KA, kc, h0, hm, hM, hK⟩ := h.ex
  by_cases k1 : a.e.kd = 1 ∨ a.e.kd = 2
  · have e1 : couldB ws keys S a = decide (0 < cmp2 a.e.tm a.e.tc a.e.sm a.e.sc) := if_pos k1
    have e2 : snapS S a = S := if_neg (by omega)
    rw [e1, e2]
    exact (could_write kb a.e w k1).mono (fun e' w' q => ⟨q.1, But.of_below q.2, h.below q.2⟩)
  by_cases k3 : a.e.kd = 3
  · have e1 : couldB ws keys S a = decide (0 ≤ cmp2 a.e.tm a.e.tc a.e.sm a.e.sc) := by unfold couldB; rw [if_neg k1, if_pos k3]
    have e2 : snapS S a = updS a.e.nd a.e.an a.e.tm a.e.tc S.1 S.2 := if_pos k3
    rw [e1, e2]
    exact (could_snap_any kb r2 S.2 S.1 a.e w k3 h.c2 h.lt h.m2 hkr).mono (fun e' w' q => ⟨q.1, q.2.1, h.snap hrr q.2.1 q.2.2⟩)
  have e2 : snapS S a = S := if_neg k3
  rw [e2]
  by_cases k4 : a.e.kd = 4
  · have e1 : couldB ws keys S a = getP ws S.1 a.e a.q := by unfold couldB; rw [if_neg k1, if_neg k3, if_pos k4]
    rw [e1]
    exact (could_get_any kb r r2 mc S.2 l ws S.1 a.q a.e w k4 hE.bl h.c2 h.m2 h.c1 h.lt hm hM hE.bby hE.bis).mono (fun e' w' q => ⟨q.1, But.of_below q.2, h.below q.2⟩)
  by_cases k5 : a.e.kd = 5
  · have e1 : couldB ws keys S a = scP ws keys S.1 a.e a.Ps := by unfold couldB; rw [if_neg k1, if_neg k3, if_neg k4, if_pos k5]
    rw [e1]
    exact (could_scan_any kb r r2 mc S.2 l ws S.1 keys KA kc a.Ps a.e w k5 hE.pl h.c2 h.m2 h0 hK hkl h.c1 h.lt hm hM hE.row hE.all (Nat.le_trans hE.pm (by decide))).mono (fun e' w' q => ⟨q.1, But.of_below q.2, h.below q.2⟩)
  · have e1 : couldB ws keys S a = true := by unfold couldB; rw [if_neg k1, if_neg k3, if_neg k4, if_neg k5]
    rw [e1]
    have b : ∀ z : Int, ¬ a.e.kd = z → (a.e.kd == z) = false := fun z hz => by simpa using hz
    exact (could_no kb a.e w (b 1 (by omega)) (b 2 (by omega)) (b 3 k3) (b 4 k4) (b 5 k5)).mono (fun e' w' q => ⟨q.1, But.of_below q.2, h.below q.2⟩)
end Go.Proofs.Ytdjhpajmbddffaa

/- Stage 25: what Check's first loop has built: the keys as they come, a row of writes for each key. -/
namespace Go.Proofs.Ytdjhpajmbddffaa
open Go.RowKit

/-- Which keys, as they come. -/
def firsts (l : List ByteArray) : List ByteArray := l.foldl (fun l k => if l.any (fun x => decide (x = k)) then l else l ++ [k]) []
theorem firsts_step (l : List ByteArray) (k : ByteArray) : firsts (l ++ [k]) = if (firsts l).any (fun x => decide (x = k)) then firsts l else firsts l ++ [k] := by
  unfold firsts
  rw [List.foldl_append]
  rfl
/-- A write whose bytes lie in V, in no block of the call's own making. -/
structure WqOk (kb r : Nat) (V : World) (x : Wq) : Prop where
  by_ : ByL V x.A x.m.p
  nil : x.A = none → x.m.p.length = 0
  len : x.m.p.length ≤ 100000
  isb : isBy x.m.p
  off : ∀ ad, x.A = some ad → ad.block ≠ kb ∧ ad.block ≠ r
/-- Behind the writes ms: the keys kv, the map's entries l; V: the world behind Writes. -/
structure Bld (kb r r2 : Nat) (V : World) (L' : List Wq) (ms : List Wm) (kv : Value) (l : List En) (mc : Nat) (w : World) : Prop where
  pk : Pk kb r r2 w kv (.map (l.map En.e).toArray mc) (.map #[] 0)
  ks : w.ownsRow V.heap.size 9 1 kv (firsts (ms.map Wm.key)).length ((firsts (ms.map Wm.key)).map Value.string)
  ro : ∀ s, ∃ L, w.ownsRow V.heap.size 37 9 (lkE s l) L.length (rowQ L) ∧ L.map Wq.m = ms.filter (fun m => decide (m.key = s)) ∧ ∀ x ∈ L, x ∈ L'
  ap : ∀ s s' i, (lkE s l).ownBlock = some i → (lkE s' l).ownBlock = some i → s = s'
  ak : ∀ s i, (lkE s l).ownBlock = some i → kv.ownBlock ≠ some i
  bu : But (fun k => k = kb ∨ k = r) V w
theorem Bld.start {kb r r2 : Nat} {V : World} {L' : List Wq} (h : Pk kb r r2 V (.slice none 0 0) (.map #[] 0) (.map #[] 0)) : Bld kb r r2 V L' [] (.slice none 0 0) [] 0 V where
  pk := h
  ks := World.ownsRow_nil _ _ _ _
  ro := fun s => ⟨[], World.ownsRow_nil _ _ _ _, rfl, fun x hx => by cases hx⟩
  ap := fun s s' i h => by cases h
  ak := fun s i h => by cases h
  bu := But.refl _ _
theorem ByL.off {w w' : World} {kb r : Nat} (k : But (fun k => k = kb ∨ k = r) w w') {A : Option Addr} {p : List Int} (h : ByL w A p) (ho : ∀ ad, A = some ad → ad.block ≠ kb ∧ ad.block ≠ r) : ByL w' A p := fun h0 => by
  obtain ⟨B, O, h1, h2, h3⟩ := h h0
  have hB := ho _ h1
  exact ⟨B, O, h1, Nat.lt_of_lt_of_le h2 k.size, fun j u hu => (k.cell B _ h2 (by rintro (q | q); exact hB.1 q; exact hB.2 q)).trans (h3 j u hu)⟩
theorem rows_ok {kb r : Nat} {V : World} {L' : List Wq} {ms : List Wm} {l : List En} {w : World} (ro : ∀ s, ∃ L, w.ownsRow V.heap.size 37 9 (lkE s l) L.length (rowQ L) ∧ L.map Wq.m = ms.filter (fun m => decide (m.key = s)) ∧ ∀ x ∈ L, x ∈ L') (bu : But (fun k => k = kb ∨ k = r) V w) (hL : ∀ x ∈ L', WqOk kb r V x) (hn : ms.length ≤ 1000) : MapOk w l ms := fun s => by
  obtain ⟨L, h1, h2, h3⟩ := ro s
  obtain ⟨A, c, e⟩ := row_shapeQ h1
  refine ⟨A, c, L, e, ⟨fun h0 => ?_, fun x hx => ⟨(hL x (h3 x hx)).by_.off bu (hL x (h3 x hx)).off, (hL x (h3 x hx)).nil, (hL x (h3 x hx)).len⟩, fun x hx => (hL x (h3 x hx)).isb⟩, h2, ?_⟩
  · obtain ⟨g, cap, e2, _, _, hg⟩ := row_shape h1 h0
    rw [e] at e2
    injection e2 with e2 _ _
    subst e2
    rw [e] at h1
    exact ⟨g, 0, rfl, hg, fun j u hu => by
      obtain ⟨cap2, e3⟩ : ∃ c2, Value.slice (some ⟨g, 0, none⟩) L.length c = .slice (some ⟨g, 0, none⟩) L.length c2 := ⟨c, rfl⟩
      rw [Nat.zero_add]
      exact row_cell h1 hu⟩
  · have := List.length_filter_le (fun m : Wm => decide (m.key = s)) ms
    have e4 := congrArg List.length h2
    rw [List.length_map] at e4
    omega
theorem own_ge {w : World} {base : Nat} {e : TypeId} {size : Nat} {v : Value} {n : Nat} {xs : List Value} (h : w.ownsRow base e size v n xs) {i : Nat} (hi : v.ownBlock = some i) : base ≤ i := by
  rcases h.2 with ⟨rfl, _⟩ | ⟨g, cap, cur, rfl, hb, _⟩
  · cases hi
  · have : g = i := by simpa [Value.ownBlock] using hi
    omega
theorem Bld.sorted {kb r r2 : Nat} {V : World} {L' : List Wq} {ms : List Wm} {kv : Value} {l : List En} {mc : Nat} {w w' : World} (h : Bld kb r r2 V L' ms kv l mc w) (h1 : kb < V.heap.size) (h2 : r < V.heap.size) (h3 : r2 < V.heap.size) (k : But (fun i => kv.ownBlock = some i) w w') (hL : ∀ x ∈ L', WqOk kb r V x) (hn : ms.length ≤ 1000) :
    Pk kb r r2 w' kv (.map (l.map En.e).toArray mc) (.map #[] 0) ∧ MapOk w' l ms ∧ But (fun k => k = kb ∨ k = r) V w' := by
  have hge : ∀ i, i < V.heap.size → ¬ kv.ownBlock = some i := fun i hi e => by have := own_ge h.ks e; omega
  have hb : But (fun k => k = kb ∨ k = r) V w' := h.bu.trans k (fun i hi e => absurd e (hge i hi))
  refine ⟨⟨?_, ?_, ?_, ?_, ?_, ?_, Nat.lt_of_lt_of_le h.pk.lt k.size⟩, rows_ok (fun s => ?_) hb hL hn, hb⟩
  · exact (k.cell kb 0 h.pk.lt (hge kb h1)).trans h.pk.c0
  · exact (k.cell kb 1 h.pk.lt (hge kb h1)).trans h.pk.c1
  · exact (k.cell kb 2 h.pk.lt (hge kb h1)).trans h.pk.c2
  · exact (k.frozen kb 0 h.pk.lt (hge kb h1)).trans h.pk.f0
  · exact map_but h.pk.h1 k (hge r h2)
  · exact map_but h.pk.h2 k (hge r2 h3)
  · obtain ⟨L, q1, q2, q3⟩ := h.ro s
    exact ⟨L, k.row q1 (fun i hi => h.ak s i hi), q2, q3⟩
end Go.Proofs.Ytdjhpajmbddffaa

/- Stage 25: a map's entry written: one law for both ways. -/
namespace Go.Proofs.Ytdjhpajmbddffaa
open Go.RowKit

/-- The entries behind m[s] = v. -/
def updE (s : ByteArray) (v : Value) (l : List En) (c : Nat) : List En × Nat := match fndE s l 0 with
  | none => (l ++ [En.mk s v c], c + 1)
  | some x => (l.set x.1 (En.mk s v (((l[x.1]?).map En.b).getD 0)), c)
theorem fndE_app (s' : ByteArray) (y : En) : ∀ (l : List En) (i : Nat), fndE s' (l ++ [y]) i = match fndE s' l i with
    | none => if s' = y.k then some (i + l.length, y.v) else none
    | some q => some q
  | [], i => by simp [fndE]
  | x :: t, i => by
    show (if s' = x.k then some (i, x.v) else fndE s' (t ++ [y]) (i + 1)) = match (if s' = x.k then some (i, x.v) else fndE s' t (i + 1)) with
      | none => if s' = y.k then some (i + (t.length + 1), y.v) else none
      | some q => some q
    by_cases h : s' = x.k
    · rw [if_pos h, if_pos h]
    · rw [if_neg h, if_neg h, fndE_app s' y t (i + 1), show i + 1 + t.length = i + (t.length + 1) from by omega]
theorem fndE_set (s s' : ByteArray) (v : Value) (b : Nat) : ∀ (l : List En) (i j : Nat) (v0 : Value), fndE s l i = some (j, v0) → fndE s' (l.set (j - i) (En.mk s v b)) i = if s' = s then some (j, v) else fndE s' l i
  | x :: t, i, j, v0, h => by
    unfold fndE at h
    split at h
    · rename_i hk
      injection h with h
      injection h with h1 h2
      subst h1
      rw [Nat.sub_self, List.set_cons_zero]
      show (if s' = s then some (i, v) else fndE s' t (i + 1)) = if s' = s then some (i, v) else if s' = x.k then some (i, x.v) else fndE s' t (i + 1)
      by_cases q : s' = s
      · rw [if_pos q, if_pos q]
      · rw [if_neg q, if_neg q, if_neg (fun e => q (e.trans hk.symm))]
    · rename_i hk
      have hj := (fndE_at h).1
      rw [show j - i = (j - (i + 1)) + 1 from by omega, List.set_cons_succ]
      show (if s' = x.k then some (i, x.v) else fndE s' (t.set (j - (i + 1)) (En.mk s v b)) (i + 1)) = if s' = s then some (j, v) else if s' = x.k then some (i, x.v) else fndE s' t (i + 1)
      rw [fndE_set s s' v b t (i + 1) j v0 h]
      by_cases q : s' = s
      · rw [if_neg (fun e => hk (q.symm.trans e)), if_pos q, if_pos q]
      · rw [if_neg q, if_neg q]
theorem lkE_upd (s s' : ByteArray) (v : Value) (l : List En) (c : Nat) : lkE s' (updE s v l c).1 = if s' = s then v else lkE s' l := by
  unfold updE
  cases h : fndE s l 0 with
  | none =>
    unfold lkE
    rw [fndE_app]
    by_cases q : s' = s
    · rw [if_pos q, q, h]
      simp
    · cases h' : fndE s' l 0 with
      | none => simp [q]
      | some z => simp [q]
  | some z =>
    unfold lkE
    have := fndE_set s s' v (((l[z.1]?).map En.b).getD 0) l 0 z.1 z.2 h
    rw [Nat.sub_zero] at this
    rw [this]
    by_cases q : s' = s
    · rw [if_pos q, if_pos q]
    · rw [if_neg q, if_neg q]
theorem upd_any (w : World) (r c : Nat) (s : ByteArray) (v : Value) (l : List En) (h : w.heap[r]? = some (.map (l.map En.e).toArray c)) : (Instr.mapUpdate 62 (.map (some r)) (.string s) v).run Try.prog w = .ok () (setMap w r (.map ((updE s v l c).1.map En.e).toArray (updE s v l c).2)) := by
  unfold updE
  cases hn : fndE s l 0 with
  | none => exact upd_new w r c s v l h hn
  | some z =>
    obtain ⟨_, x, hx, _, _⟩ := fndE_at hn
    rw [Nat.sub_zero] at hx
    have := upd_old w r c s v z.2 l z.1 x h hn hx
    show _ = Result.ok () (setMap w r (.map ((l.set z.1 (En.mk s v (((l[z.1]?).map En.b).getD 0))).map En.e).toArray c))
    rw [hx]
    exact this
theorem row_lt {w : World} {base : Nat} {e : TypeId} {size : Nat} {v : Value} {n : Nat} {xs : List Value} (h : w.ownsRow base e size v n xs) {i : Nat} (hi : v.ownBlock = some i) : i < w.heap.size := by
  rcases h.2 with ⟨rfl, _⟩ | ⟨g, cap, cur, rfl, hb, hgg, _⟩
  · cases hi
  · have : g = i := by simpa [Value.ownBlock] using hi
    subst this
    exact (Array.getElem?_eq_some_iff.1 hgg).1
/-- One more write. -/
theorem Bld.add {kb r r2 : Nat} {V : World} {L' : List Wq} {ms : List Wm} {kv : Value} {l : List En} {mc : Nat} {w w' : World} {x : Wq} {kv' v' : Value} {L : List Wq} (h : Bld kb r r2 V L' ms kv l mc w) (hx : x ∈ L')
    (hpk : Pk kb r r2 w' kv' (.map ((updE x.m.key v' l mc).1.map En.e).toArray (updE x.m.key v' l mc).2) (.map #[] 0))
    (hks : w'.ownsRow V.heap.size 9 1 kv' (firsts ((ms ++ [x.m]).map Wm.key)).length ((firsts ((ms ++ [x.m]).map Wm.key)).map Value.string))
    (hL1 : L.map Wq.m = ms.filter (fun m => decide (m.key = x.m.key))) (hL2 : ∀ y ∈ L, y ∈ L') (hnew : w'.ownsRow V.heap.size 37 9 v' (L.length + 1) (rowQ L ++ x.cs))
    (hkeep : But (fun i => i = kb ∨ i = r ∨ kv.ownBlock = some i ∨ (lkE x.m.key l).ownBlock = some i) w w') (hfv : Fresh w (lkE x.m.key l) v') (hfk : Fresh w kv kv') (hne : ∀ i, v'.ownBlock = some i → kv'.ownBlock ≠ some i)
    (h1 : kb < V.heap.size) (h2 : r < V.heap.size) : Bld kb r r2 V L' (ms ++ [x.m]) kv' (updE x.m.key v' l mc).1 (updE x.m.key v' l mc).2 w' where
  pk := hpk
  ks := hks
  ro := fun s => by
    rw [lkE_upd, List.filter_append]
    by_cases q : s = x.m.key
    · subst q
      rw [if_pos rfl]
      refine ⟨L ++ [x], by rw [List.length_append, rowQ_append, rowQ_one]; exact hnew, ?_, fun y hy => ?_⟩
      · rw [List.map_append, hL1, List.filter_cons_of_pos (by simp)]
        rfl
      · rcases List.mem_append.1 hy with u | u
        · exact hL2 y u
        · rw [List.mem_singleton.1 u]; exact hx
    · rw [if_neg q]
      obtain ⟨M, q1, q2, q3⟩ := h.ro s
      refine ⟨M, hkeep.row q1 (fun i hi => ?_), ?_, q3⟩
      · have hg := own_ge q1 hi
        rintro (e | e | e | e)
        · omega
        · omega
        · exact h.ak s i hi e
        · exact q (h.ap s _ i hi e)
      · rw [q2, List.filter_cons_of_neg (by simpa using fun e => q e.symm)]
        simp
  ap := fun s s' i hs hs' => by
    rw [lkE_upd] at hs hs'
    have hlt : ∀ z, (lkE z l).ownBlock = some i → i < w.heap.size := fun z hz => by
      obtain ⟨M, q1, _⟩ := h.ro z
      exact row_lt q1 hz
    by_cases q : s = x.m.key
    · by_cases q' : s' = x.m.key
      · rw [q, q']
      · rw [if_pos q] at hs
        rw [if_neg q'] at hs'
        rcases hfv i hs with u | u
        · exact absurd (h.ap _ _ i hs' u) q'
        · have := hlt _ hs'; omega
    · by_cases q' : s' = x.m.key
      · rw [if_neg q] at hs
        rw [if_pos q'] at hs'
        rcases hfv i hs' with u | u
        · exact absurd (h.ap _ _ i hs u) q
        · have := hlt _ hs; omega
      · rw [if_neg q] at hs
        rw [if_neg q'] at hs'
        exact h.ap s s' i hs hs'
  ak := fun s i hs => by
    rw [lkE_upd] at hs
    by_cases q : s = x.m.key
    · rw [if_pos q] at hs
      exact hne i hs
    · rw [if_neg q] at hs
      intro e
      obtain ⟨M, q1, _⟩ := h.ro s
      have := row_lt q1 hs
      rcases hfk i e with u | u
      · exact h.ak s i hs u
      · omega
  bu := h.bu.trans hkeep (fun i hi e => by
    obtain ⟨M, q1, _⟩ := h.ro x.m.key
    rcases e with e | e | e | e
    · exact .inl e
    · exact .inr e
    · have := own_ge h.ks e; omega
    · have := own_ge q1 e; omega)
theorem Pk.off {kb r1 r2 : Nat} {V V' : World} {K0 : Value} {m1 m2 : Obj} (h : Pk kb r1 r2 V K0 m1 m2) {S : Nat → Prop} (k : But S V V') (a : ¬ S kb) (b : ¬ S r1) (c : ¬ S r2) : Pk kb r1 r2 V' K0 m1 m2 :=
  ⟨(k.cell kb 0 h.lt a).trans h.c0, (k.cell kb 1 h.lt a).trans h.c1, (k.cell kb 2 h.lt a).trans h.c2, (k.frozen kb 0 h.lt a).trans h.f0, map_but h.h1 k b, map_but h.h2 k c, Nat.lt_of_lt_of_le h.lt k.size⟩
theorem firsts_any (k : ByteArray) (l : List ByteArray) : (firsts l).any (fun x => decide (x = k)) = l.any (fun x => decide (x = k)) := by
  suffices h : ∀ r : List ByteArray, (firsts r.reverse).any (fun x => decide (x = k)) = r.reverse.any (fun x => decide (x = k)) by
    have := h l.reverse
    rwa [List.reverse_reverse] at this
  intro r
  induction r with
  | nil => rfl
  | cons y t ih =>
    rw [List.reverse_cons, firsts_step, List.any_append]
    by_cases q : (firsts t.reverse).any (fun x => decide (x = y)) = true
    · rw [if_pos q, ih]
      by_cases e : y = k
      · subst e
        rw [ih] at q
        rw [q]
        rfl
      · simp [e]
    · rw [if_neg q, List.any_append, ih]
theorem has_key (ms : List Wm) (s : ByteArray) : (ms.map Wm.key).any (fun x => decide (x = s)) = !(decide ((ms.filter (fun m => decide (m.key = s))).length = 0)) := by
  induction ms with
  | nil => rfl
  | cons m t ih =>
    rw [List.map_cons, List.any_cons, ih]
    by_cases q : m.key = s
    · rw [List.filter_cons_of_pos (by simpa using q)]
      simp [q]
    · rw [List.filter_cons_of_neg (by simpa using q)]
      simp [q]
theorem firsts_old {ms : List Wm} {m : Wm} (h : ¬ (ms.filter (fun y => decide (y.key = m.key))).length = 0) : firsts ((ms ++ [m]).map Wm.key) = firsts (ms.map Wm.key) := by
  rw [List.map_append, List.map_cons, List.map_nil, firsts_step, firsts_any, has_key, decide_eq_false h]
  rfl
theorem firsts_new {ms : List Wm} {m : Wm} (h : (ms.filter (fun y => decide (y.key = m.key))).length = 0) : firsts ((ms ++ [m]).map Wm.key) = firsts (ms.map Wm.key) ++ [m.key] := by
  rw [List.map_append, List.map_cons, List.map_nil, firsts_step, firsts_any, has_key, decide_eq_true h]
  rfl
end Go.Proofs.Ytdjhpajmbddffaa

/- Stage 25: slices.Sort of an own row of keys. -/
namespace Go.Proofs.Ytdjhpajmbddffaa
open Go.RowKit

theorem enc_str (k : ByteArray) : encStr k.toList = Value.string k := by
  show Value.string ⟨k.toList.toArray⟩ = _
  rw [ByteArray.toList_eq]
theorem sort_keys (B : Nat) (kv : Value) (ks : List ByteArray) (w : World) (h : w.ownsRow B 9 1 kv ks.length (ks.map Value.string)) (hl : ks.length ≤ 1000) :
    ∃ A c, kv = .slice A ks.length c ∧ Calls Try.prog 16 #[kv] w fun e w' => e = .returned (.tuple #[]) ∧ But (fun i => kv.ownBlock = some i) w w' ∧ StrRow w' A ((((ks.map ByteArray.toList)).mergeSort (fun x y => decide (x ≤ y))).map (fun b => ⟨b.toArray⟩)) := by
  rcases h.2 with ⟨rfl, h0⟩ | ⟨g, cap, cur, rfl, hbase, hb, h1, h2, h3, h4⟩
  · have hx : ks = [] := List.length_eq_zero_iff.1 h0
    subst hx
    refine ⟨none, 0, rfl, (Any.slices_Sort_string_none Try.lays190 none 0 w).mono ?_⟩
    rintro e W' ⟨rfl, rfl⟩
    exact ⟨rfl, But.refl _ _, fun h => by simp at h⟩
  · obtain ⟨ss, hss⟩ : ∃ ss, ks.map ByteArray.toList = ss := ⟨_, rfl⟩
    have hsl : ss.length = ks.length := by rw [← hss, List.length_map]
    have hse : ks.map Value.string = ss.map encStr := by
      rw [← hss, List.map_map]
      exact List.map_congr_left (fun k _ => (enc_str k).symm)
    rw [hss]
    rw [← hsl] at h1 h4 hl ⊢
    have h4' : cur.toList.take ss.length = ss.map encStr := by rw [← hse]; simpa using h4
    refine ⟨_, _, rfl, (Any.slices_Sort_string Try.lays190 g 0 cap ss w (holds_of_block hb h4') ((Array.getElem?_eq_some_iff.1 hb).1) (by omega)).mono ?_⟩
    rintro e W' ⟨rfl, nn, os, rfl⟩
    have hor := ownsRow_sorted (n := nn) (os := os) (ss := ss) (ts := ss.mergeSort fun x y => decide (x ≤ y)) (by simp) hbase hb h1 h2 h3
    refine ⟨rfl, But.of_grown (grownBy_sorted _) (fun i hi => hi), fun _ => ⟨g, 0, rfl, (hor.lt g rfl).2, fun i k hk => ?_⟩⟩
    rw [Nat.zero_add]
    refine row_cell hor (u := .string k) ?_
    rw [List.getElem?_map] at hk ⊢
    obtain ⟨b, hb, rfl⟩ := Option.map_eq_some_iff.1 hk
    rw [hb]
    rfl
end Go.Proofs.Ytdjhpajmbddffaa

/- Stage 25: Check of any events. -/
namespace Go.Proofs.Ytdjhpajmbddffaa
open Go.RowKit

theorem EvIn.below {w w' : World} {a : EvA} (h : EvIn w a) (k : Below w.heap.size w w') : EvIn w' a :=
  { h with vby := h.vby.below k, bby := h.bby.below k, row := h.row.below k, all := fun x hx => ⟨(h.all x hx).1.below k, (h.all x hx).2⟩ }
/-- Which keys, rising (in the words of the shelf's slices.Sort). -/
def keysOf (ws : List Wm) : List ByteArray := (((firsts (ws.map Wm.key)).map ByteArray.toList).mergeSort (fun x y => decide (x ≤ y))).map (fun b => ⟨b.toArray⟩)
theorem fold_len : ∀ (l acc : List ByteArray), (l.foldl (fun l k => if l.any (fun x => decide (x = k)) then l else l ++ [k]) acc).length ≤ acc.length + l.length
  | [], acc => by simp
  | k :: t, acc => by
    rw [List.foldl_cons, List.length_cons]
    refine Nat.le_trans (fold_len t _) ?_
    split
    · omega
    · rw [List.length_append, List.length_singleton]
      omega
theorem firsts_len (l : List ByteArray) : (firsts l).length ≤ l.length := by
  have := fold_len l []
  simpa [firsts] using this
theorem keysOf_n (ws : List Wm) : (keysOf ws).length = (firsts (ws.map Wm.key)).length := by
  unfold keysOf
  rw [List.length_map, List.length_mergeSort, List.length_map]
theorem keysOf_len (ws : List Wm) : (keysOf ws).length ≤ ws.length := by
  unfold keysOf
  rw [List.length_map, List.length_mergeSort, List.length_map]
  have := fold_len (ws.map Wm.key) []
  simpa [firsts] using this
theorem wsN_len (L : List Ev) (pv : Nat → List Int) (k : Nat) : (wsN L pv k).length ≤ k := by
  unfold wsN
  have := List.length_filterMap_le (fun i => (L[i]?).bind fun e => wOf e (pv i)) (List.range k)
  rwa [List.length_range] at this
/-- Which event can't be. -/
def chkR (ws : List Wm) (keys : List ByteArray) : List Sn × Nat → Nat → List EvA → Nat × Bool
  | _, _, [] => (0, false)
  | S, i, a :: t =>
    if a.e.er = 0 then
      if couldB ws keys S a = true then chkR ws keys (snapS S a) (i + 1) t else (i, true)
    else chkR ws keys S (i + 1) t
theorem chkR_skip {ws : List Wm} {keys : List ByteArray} {S : List Sn × Nat} {i : Nat} {a : EvA} {t : List EvA} (h : ¬ a.e.er = 0) : chkR ws keys S i (a :: t) = chkR ws keys S (i + 1) t := if_neg h
theorem chkR_on {ws : List Wm} {keys : List ByteArray} {S : List Sn × Nat} {i : Nat} {a : EvA} {t : List EvA} (h : a.e.er = 0) (hc : couldB ws keys S a = true) : chkR ws keys S i (a :: t) = chkR ws keys (snapS S a) (i + 1) t := (if_pos h).trans (if_pos hc)
theorem chkR_out {ws : List Wm} {keys : List ByteArray} {S : List Sn × Nat} {i : Nat} {a : EvA} {t : List EvA} (h : a.e.er = 0) (hc : couldB ws keys S a = false) : chkR ws keys S i (a :: t) = (i, true) := (if_pos h).trans (if_neg (by rw [hc]; exact Bool.false_ne_true))
/-- The bytes of the event at a place. -/
def pvOf (L : List EvA) (k : Nat) : List Int := ((L[k]?).map EvA.p).getD []
theorem ws_ok {L : List EvA} {w : World} (hE : ∀ a ∈ L, EvIn w a) (hvl : ∀ a ∈ L, a.e.vl ≤ 100000) : ∀ m ∈ wsN (L.map EvA.e) (pvOf L) L.length, isBy m.p ∧ m.p.length ≤ 100000 := by
  intro m hm
  unfold wsN at hm
  obtain ⟨i, _, hi⟩ := List.mem_filterMap.1 hm
  cases ha : L[i]? with
  | none =>
    rw [List.getElem?_map, ha] at hi
    cases hi
  | some a =>
    rw [List.getElem?_map, ha] at hi
    have hp : pvOf L i = a.p := by unfold pvOf; rw [ha]; rfl
    change wOf a.e (pvOf L i) = some m at hi
    rw [hp] at hi
    have hin := hE a (List.mem_of_getElem? ha)
    unfold wOf at hi
    split at hi
    · injection hi with hi
      subst hi
      show isBy (if a.e.kd = 1 then a.p else []) ∧ (if a.e.kd = 1 then a.p else []).length ≤ 100000
      split
      · exact ⟨hin.vis, by rw [← hin.vl]; exact hvl a (List.mem_of_getElem? ha)⟩
      · exact ⟨(fun _ h => by cases h), Nat.zero_le _⟩
    · cases hi
set_option maxRecDepth 100000 in
set_option maxHeartbeats 16000000 in
theorem check_any (B O c : Nat) (L : List EvA) (w : World) (h : RowE w B O (L.map EvA.e)) (hl : L.length ≤ 1000) (hE : ∀ a ∈ L, EvIn w a) (hvl : ∀ a ∈ L, a.e.vl ≤ 100000) :
    Calls Try.prog 12 #[.slice (some ⟨B, O, none⟩) L.length c] w fun e' w' => e' = .returned (.tuple #[.int .i64 ((chkR (wsN (L.map EvA.e) (pvOf L) L.length) (keysOf (wsN (L.map EvA.e) (pvOf L) L.length)) ([], 0) 0 L).1 : Int), .bool (chkR (wsN (L.map EvA.e) (pvOf L) L.length) (keysOf (wsN (L.map EvA.e) (pvOf L) L.length)) ([], 0) 0 L).2]) ∧ Below w.heap.size w w' := by
  have HR := Lib.hid h
  have HEE := Lib.hid hE
  have HWR := Lib.hid (fun (W : World) (k : Below w.heap.size w W) => writes_any B O c (L.map EvA.e) (pvOf L) W (h.below k) (by rw [List.length_map]; exact hl) (fun k' e' he' => by
    rw [List.getElem?_map] at he'
    obtain ⟨a, ha, rfl⟩ := Option.map_eq_some_iff.1 he'
    have hi := hE a (List.mem_of_getElem? ha)
    have hp : pvOf L k' = a.p := by unfold pvOf; rw [ha]; rfl
    rw [hp]
    exact ⟨hi.vl, hi.vby.below k, hi.vn, hi.vl ▸ hvl a (List.mem_of_getElem? ha)⟩))
  rw [List.length_map] at HWR
  have HKL : Hid ((keysOf (wsN (L.map EvA.e) (pvOf L) L.length)).length ≤ 1000) := Lib.hid (Nat.le_trans (Nat.le_trans (keysOf_len _) (wsN_len _ _ _)) hl)
  have HWO := Lib.hid (ws_ok hE hvl)
  have HWL : Hid ((wsN (L.map EvA.e) (pvOf L) L.length).length ≤ 1000) := Lib.hid (Nat.le_trans (wsN_len _ _ _) hl)
  obtain ⟨ws, hws⟩ : ∃ x, wsN (L.map EvA.e) (pvOf L) L.length = x := ⟨_, rfl⟩
  rw [hws] at HWR HKL HWO HWL ⊢
  obtain ⟨res, hres⟩ : ∃ x, chkR ws (keysOf ws) ([], 0) 0 L = x := ⟨_, rfl⟩
  rw [hres]
  have HE := Lib.hid hres
  clear h hE hvl hws hres
  go_enter Try.func12, Try.ntmps12
  go_upto_region 1 with fail
  refine wp_region_lit ?_
  refine wpList_mk rfl 62 rfl ?_
  refine wpList_mk rfl 63 rfl ?_
  refine wpList_plain rfl (fun KK hKK => ?_)
  go_simp
  refine hKK _ _ ?_
  refine wpList_plain rfl (fun KK hKK => ?_)
  go_simp
  refine hKK _ _ ?_
  refine wpList_plain rfl (fun KK hKK => ?_)
  go_simp
  refine hKK _ _ ?_
  refine wpList_nil ?_
  obtain ⟨V0, hV0⟩ : ∃ V, (((w.alloc (.map #[] 0)).alloc (.map #[] 0)).alloc (.cells #[.slice none 0 0, .map (some w.heap.size), .map (some (w.heap.size + 1))] 66)) = V := ⟨_, rfl⟩
  have hb0 : Below w.heap.size w V0 := by rw [← hV0]; exact (((Below.refl _ _).alloc (Nat.le_refl _) _).alloc (by simp) _).alloc (by simp; omega) _
  have hp0 : Pk (w.heap.size + 1 + 1) w.heap.size (w.heap.size + 1) V0 (.slice none 0 0) (.map #[] 0) (.map #[] 0) := by
    rw [← hV0]
    exact pk_new w _
  rw [hV0]
  clear hV0
  have N := Lib.hid (show w.heap.size ≤ w.heap.size ∧ w.heap.size ≤ w.heap.size + 1 ∧ w.heap.size ≤ w.heap.size + 1 + 1 ∧ w.heap.size + 1 + 1 ≠ w.heap.size ∧ w.heap.size + 1 + 1 ≠ w.heap.size + 1 ∧ w.heap.size ≠ w.heap.size + 1 by omega)
  have HB0 := Lib.hid hb0
  clear hb0
  obtain ⟨n0, hn0⟩ : ∃ n, w.heap.size = n := ⟨_, rfl⟩
  rw [hn0] at hp0 N ⊢
  generalize hkb : n0 + 1 + 1 = kb at *
  generalize hr2 : n0 + 1 = r2 at *
  have HN0 := Lib.hid hn0
  clear hkb hr2 hn0
  have HP0 := Lib.hid hp0
  clear hp0
  go_wp2_with (go_at_call 7; refine (HWR.out _ HB0.out).mono ?_; rintro e1 V1 ⟨⟨v, L', rfl, hw1, hmm⟩, k1⟩; have HMM := Lib.hid hmm; clear hmm; obtain ⟨WA, wc1, rfl⟩ := row_shapeQ hw1.row; have HP1 := Lib.hid (HP0.out.below k1); have HB1 := Lib.hid (HB0.out.trans (k1.mono HB0.out.size)); have HW1 := Lib.hid hw1; clear k1 hw1)
  have HLq : Hid (∀ x ∈ L', WqOk kb n0 V1 x) := Lib.hid (fun x hx => by
    have hm := HWO.out x.m (by rw [← HMM.out]; exact List.mem_map_of_mem hx)
    have ha := HW1.out.at_ x hx
    have hg := HP0.out.lt
    have hr := HP0.out.l1
    exact ⟨ha.1, ha.2.1, hm.2, hm.1, fun ad e => ⟨by have := (ha.2.2 ad e).1; omega, by have := (ha.2.2 ad e).1; omega⟩⟩)
  have HLT : Hid (kb < V1.heap.size ∧ n0 < V1.heap.size ∧ r2 < V1.heap.size) := Lib.hid ⟨HP1.out.lt, HP1.out.l1, HP1.out.l2⟩
  have HLW : Hid (L'.length = ws.length) := Lib.hid (by rw [← HMM.out, List.length_map])
  go_loopw [15] (fun i wr => ∃ (k : Nat) (kv : Value) (l : List En) (mc : Nat), k ≤ L'.length ∧ i = .int .i64 (k : Int) ∧ Hid (Bld kb n0 r2 V1 L' (ws.take k) kv l mc wr)) (fun i _ => L'.length - (intOf i).toNat)
  case atStart => exact ⟨0, .slice none 0 0, [], 0, by omega, by simp, Lib.hid (Bld.start HP1.out)⟩
  case round =>
    obtain ⟨k, kv, l, mc, hk, rfl, HBD⟩ := hrel
    by_cases h1 : k < L'.length
    · have hl3 : L'.length ≤ 1000 := by rw [HLW.out]; exact HWL.out
      have wk : IntKind.i64.wrap ((k : Int) + 1) = (k : Int) + 1 := IntWalk.i64_in _ (by omega)
      have t3 : decide ((k : Int) < (L'.length : Int)) = true := by simpa using h1
      have hki : (k : Int) < (L'.length : Int) := by omega
      obtain ⟨x, hx⟩ : ∃ x, L'[k]? = some x := ⟨_, List.getElem?_eq_getElem h1⟩
      obtain ⟨g, cap, hgw, _, _, hgl⟩ := row_shape HW1.out.row (by omega)
      injection hgw with q1 _ _
      subst q1
      have hge := own_ge HW1.out.row (i := g) rfl
      have hrg : wr.rangeAt g (k * 9) x.cs := fun j u hu => (HBD.out.bu.cell g _ hgl (by have := HP0.out.lt; have := HP0.out.l1; omega)).trans (row_cell HW1.out.row (by rw [rowQ, fm_at Wq.cs 9 Wq.len hx j (by have := (List.getElem?_eq_some_iff.1 hu).1; rwa [Wq.len] at this)]; exact hu))
      obtain ⟨C, hC⟩ : ∃ C : List Value, x.cs = C := ⟨_, rfl⟩
      rw [hC] at hrg
      have hC9 : C.length = 9 := by rw [← hC]; rfl
      have hC1 : C.toArray.all (·.oneCell') = true := by rw [← hC]; simp [Wq.cs, Value.oneCell']
      have HX := Lib.hid hx
      have HC := Lib.hid hC
      have HC9 := Lib.hid hC9
      clear hC hx hge hgl
      go_upto_region 4 with fail
      refine wp_region_lit ?_
      refine wpList_plain rfl (fun KK hKK => ?_)
      go_simp
      refine hKK _ _ ?_
      refine wpList_load_mid rfl 37 (.tmp 17) rfl g (k * 9) (by first | rfl | simp) C _ hrg Try.underlying37 rfl (by rw [HC9.out, wr_size]) ?_
      refine wpList_plain rfl (fun KK hKK => ?_)
      go_simp
      refine hKK _ _ ?_
      refine wpList_store_new25 rfl 37 (.tmp 6) (.tmp 18) rfl #[.int .i64 0, .string ⟨#[]⟩, .int .i64 0, .int .i64 0, .int .i64 0, .slice none 0 0, .bool false, .int .i64 0, .bool false] C.toArray rfl rfl (by rw [wr_size, List.size_toArray, HC9.out]) (by rw [show C.toArray.size = 9 from (List.size_toArray ..).trans HC9.out]; rfl) hC1 ?_
      refine wpList_nil ?_
      obtain ⟨V2, hV⟩ : ∃ V, wr.alloc (.cells C.toArray 37) = V := ⟨_, rfl⟩
      have rx : V2.rangeAt wr.heap.size 0 C := by rw [← hV]; exact range_new _ _ _
      have k2 : Below wr.heap.size wr V2 := by rw [← hV]; exact (Below.refl _ _).alloc (Nat.le_refl _) _
      have lx : wr.heap.size < V2.heap.size := by rw [← hV]; simp
      have y1 : V2.cell? ⟨wr.heap.size, 1, none⟩ = some (.string x.m.key) := rx 1 _ (by rw [← HC.out]; rfl)
      rw [hV]
      clear hV hrg hC9
      have HP2 := Lib.hid (HBD.out.pk.below k2)
      have HXN : Hid (n0 ≠ wr.heap.size ∧ kb ≠ wr.heap.size) := Lib.hid ⟨Nat.ne_of_lt HBD.out.pk.l1, Nat.ne_of_lt HBD.out.pk.lt⟩
      have HSZ2 : Hid (V1.heap.size ≤ V2.heap.size) := Lib.hid (Nat.le_trans HBD.out.bu.size k2.size)
      have HKS : Hid (V2.ownsRow V1.heap.size 9 1 kv (firsts ((ws.take k).map Wm.key)).length ((firsts ((ws.take k).map Wm.key)).map Value.string)) := Lib.hid ((But.of_below (S := fun _ => False) k2).row HBD.out.ks (fun _ _ h => h))
      generalize hxe : wr.heap.size = xb at *
      have HXE := Lib.hid hxe
      clear hxe
      have q1 := HP2.out.c1
      go_upto_region 5 with fail
      refine wp_region_lit ?_
      refine wpList_plain rfl (fun KK hKK => ?_)
      go_simp
      refine hKK _ _ ?_
      refine wpList_plain rfl (fun KK hKK => ?_)
      go_simp
      refine hKK _ _ ?_
      refine wpList_plain rfl (fun KK hKK => ?_)
      go_simp
      refine hKK _ _ ?_
      refine wpList_plain rfl (fun KK hKK => ?_)
      go_simp
      refine hKK _ _ ?_
      obtain ⟨M, hM1, hM2, hM3⟩ := HBD.out.ro x.m.key
      obtain ⟨MA, mcap, hlk⟩ := row_shapeQ hM1
      have HLK := Lib.hid hlk
      have HM := Lib.hid (And.intro hM1 (And.intro hM2 hM3))
      clear hlk hM1 hM2 hM3
      refine wpList_look rfl 62 (.tmp 20) (.tmp 22) false rfl (.map (some n0)) (.string x.m.key) (.slice MA M.length mcap) rfl rfl (by rw [← HLK.out]; exact look_any V2 n0 mc x.m.key l HP2.out.h1) ?_
      refine wpList_plain rfl (fun KK hKK => ?_)
      go_simp
      refine hKK _ _ ?_
      refine wpList_plain rfl (fun KK hKK => ?_)
      go_simp
      refine hKK _ _ ?_
      refine wpList_nil ?_
      clear q1
      go_upto_if 25 with fail
      go_cut [25] from 25 to 32 (fun _ wx => ∃ kv1, Pk kb n0 r2 wx kv1 (.map (l.map En.e).toArray mc) (.map #[] 0) ∧ wx.ownsRow V1.heap.size 9 1 kv1 (firsts ((ws.take k ++ [x.m]).map Wm.key)).length ((firsts ((ws.take k ++ [x.m]).map Wm.key)).map Value.string) ∧ But (fun i => i = kb ∨ kv.ownBlock = some i) V2 wx ∧ Fresh V2 kv kv1)
      case first =>
        by_cases h0 : M.length = 0
        · have t5 : ((M.length : Int) == 0) = true := by simpa using h0
          have hks : (firsts ((ws.take k ++ [x.m]).map Wm.key)) = firsts ((ws.take k).map Wm.key) ++ [x.m.key] := firsts_new (by rw [← HM.out.2.1, List.length_map]; exact h0)
          have hn9 : (firsts ((ws.take k).map Wm.key)).length ≤ 1000 := Nat.le_trans (firsts_len _) (by rw [List.length_map, List.length_take]; omega)
          obtain ⟨F, hF⟩ : ∃ F, firsts ((ws.take k).map Wm.key) = F := ⟨_, rfl⟩
          have hks2 := HKS.out
          rw [hF] at hks2 hn9 hks
          have HFN := Lib.hid hks
          clear hF hks h0
          have c0 := HP2.out.c0
          have f0 := HP2.out.f0
          obtain ⟨i0, hi0, hz0, hz1, hz2⟩ := info_parts st_string
          have HNEWS : Hid _ := Lib.hid (World.news_of_block (cs := #[.string x.m.key]) (t := 9) (fr := (0, 0)) (heap_alloc_new V2 (.cells #[.string x.m.key] 9)))
          have HA2 : Hid (Below V2.heap.size V2 (V2.alloc (.cells #[.string x.m.key] 9))) := Lib.hid ((Below.refl _ _).alloc (Nat.le_refl _) _)
          have hrow : (V2.alloc (.cells #[.string x.m.key] 9)).ownsRow V1.heap.size 9 1 kv F.length (F.map Value.string) := (But.of_below (S := fun _ => False) HA2.out).row hks2 (fun _ _ h => h)
          have hbs : V1.heap.size ≤ (V2.alloc (.cells #[.string x.m.key] 9)).heap.size := Nat.le_trans HSZ2.out HA2.out.size
          have HGE : Hid (∀ i, kv.ownBlock = some i → V1.heap.size ≤ i) := Lib.hid (fun i hi => own_ge hks2 hi)
          clear rx hks2
          go_wp2_with (at_builtin; refine wpList_append_lies _ rfl (.tmp 27) (.tmp 30) _ rfl V1.heap.size 9 i0 _ 1 16 Try.underlying64 hi0 hz0 hz1 hz2 rfl (by decide) kv F.length _ rfl hrow ⟨V2.heap.size, 0, none⟩ 1 1 [.string x.m.key] rfl rfl HNEWS.out (by simp [Value.oneCell']) (by omega) (by unfold maxLen; omega) (by omega) hbs _ rfl ?_; intro gk capk V5 hown5 hg5 hat5 hlt5; have b5 := (But.of_below (S := fun i => i = kb ∨ kv.ownBlock = some i) HA2.out).trans (But.of_grown (S := fun i => kv.ownBlock = some i) hg5 (fun i hi => hi)) (fun i _ hi => Or.inr hi); have HB5 := Lib.hid b5; have HP5 := Lib.hid (HP2.out.off ((But.of_below (S := fun i => kv.ownBlock = some i) HA2.out).trans (But.of_grown (S := fun i => kv.ownBlock = some i) hg5 (fun i hi => hi)) (fun i _ hi => hi)) (fun e => by have := HGE.out _ e; have := HLT.out; omega) (fun e => by have := HGE.out _ e; have := HLT.out; omega) (fun e => by have := HGE.out _ e; have := HLT.out; omega)); have HO5 := Lib.hid hown5; have HAT := Lib.hid hat5; replace c0 := HP5.out.c0; replace f0 := HP5.out.f0; clear hown5 hg5 hat5 hlt5 b5)
          go_meet
          have k6 : Only kb V5 (V5.setCell ⟨kb, 0, none⟩ (.slice (some ⟨gk, 0, none⟩) (F.length + 1) capk)) := (Only.refl _ _).setB _
          refine ⟨.slice (some ⟨gk, 0, none⟩) (F.length + 1) capk, HP5.out.keys (by have := N.out; omega) (by have := N.out; omega), ?_, HB5.out.trans (But.of_only (S := fun i => i = kb) k6 rfl) (fun i _ hi => Or.inl hi), fun i hi => ?_⟩
          · rw [HFN.out, List.length_append, List.map_append]
            exact (But.of_only (S := fun i => i = kb) k6 rfl).row HO5.out (fun i hi e => by have := own_ge HO5.out hi; have := HLT.out; omega)
          · have hgi : gk = i := by simpa [Value.ownBlock] using hi
            subst hgi
            rcases HAT.out with u | u
            · exact .inl u
            · exact .inr (by rw [u]; exact HA2.out.size)
        · have t5 : ((M.length : Int) == 0) = false := by simpa using h0
          have hks : (firsts ((ws.take k ++ [x.m]).map Wm.key)) = firsts ((ws.take k).map Wm.key) := firsts_old (by rw [← HM.out.2.1, List.length_map]; exact h0)
          have hrow := HKS.out
          rw [← hks] at hrow
          have HROW := Lib.hid hrow
          clear hks hrow h0 rx y1
          go_wp2_with fail
          go_meet
          exact ⟨kv, HP2.out, HROW.out, But.refl _ _, fun i hi => .inl hi⟩
      case rest =>
        obtain ⟨kv1, hp3, hks3, hb3, hf3⟩ := hcut
        generalize wc = V3 at *
        have HTK : Hid (ws.take (k + 1) = ws.take k ++ [x.m]) := Lib.hid (by rw [List.take_add_one, ← HMM.out, List.getElem?_map, HX.out]; rfl)
        have HMB : Hid (∀ i, (Value.slice MA M.length mcap).ownBlock = some i → i < xb) := Lib.hid (fun i hi => by have := row_lt HM.out.1 (by rw [HLK.out]; exact hi); have := HXE.out; omega)
        have HKB : Hid (∀ i, kv.ownBlock = some i → i < xb) := Lib.hid (fun i hi => by have := row_lt HBD.out.ks hi; have := HXE.out; omega)
        have HMG : Hid (∀ i, (Value.slice MA M.length mcap).ownBlock = some i → V1.heap.size ≤ i ∧ i ≠ xb) := Lib.hid (fun i hi => ⟨own_ge HM.out.1 (by rw [HLK.out]; exact hi), by have := HMB.out i hi; omega⟩)
        have HML : Hid (M.length ≤ 1000) := Lib.hid (by
          have := List.length_filter_le (fun m : Wm => decide (m.key = x.m.key)) (ws.take k)
          have e4 := congrArg List.length HM.out.2.1
          rw [List.length_map] at e4
          have := List.length_take_le k ws
          have := HWL.out
          omega)
        have HW2 : Hid (wr.heap.size ≤ V2.heap.size) := Lib.hid (by have := HXE.out; omega)
        have HNE : Hid (∀ i, kv1.ownBlock = some i → ¬ (Value.slice MA M.length mcap).ownBlock = some i) := Lib.hid (fun i hi e => by
          rcases hf3 i hi with u | u
          · exact HBD.out.ak x.m.key i (by rw [HLK.out]; exact e) u
          · have := HMB.out i e; omega)
        have HRX3 := Lib.hid (show V3.rangeAt xb 0 C from fun j u hu => (hb3.cell xb _ lx (by
          rintro (e | e)
          · exact HXN.out.2 e.symm
          · have := HKB.out _ e; omega)).trans (rx j u hu))
        have HLX3 := Lib.hid (Nat.lt_of_lt_of_le lx hb3.size)
        have HMR3 := Lib.hid (hb3.row ((But.of_below (S := fun _ => False) (by rw [HXE.out]; exact k2)).row (by have q := HM.out.1; rw [HLK.out] at q; exact q) (fun _ _ h => h)) (fun i hi e => by
          rcases e with e | e
          · have := (HMG.out i hi).1; have := HLT.out; omega
          · exact HBD.out.ak x.m.key i (by rw [HLK.out]; exact hi) e))
        have HB3 : Hid (But (fun i => i = kb ∨ i = n0 ∨ kv.ownBlock = some i ∨ (lkE x.m.key l).ownBlock = some i) wr V3) := Lib.hid ((But.of_below (S := fun i => i = kb ∨ i = n0 ∨ kv.ownBlock = some i ∨ (lkE x.m.key l).ownBlock = some i) (by rw [HXE.out]; exact k2)).trans hb3 (fun i _ e => by
          rcases e with e | e
          · exact .inl e
          · exact .inr (.inr (.inl e))))
        have HP3 := Lib.hid hp3
        have HKS3 := Lib.hid hks3
        have HF3 := Lib.hid hf3
        have HV23 := Lib.hid hb3.size
        clear hp3 hks3 hf3 hb3 rx lx k2 y1
        have c1 := HP3.out.c1
        go_upto_region 7 with fail
        clear c1
        obtain ⟨iw, hi, hz, hs, hby⟩ := info_parts wr_info
        refine wp_region_held_drew (S := fun w' => w'.cell? ⟨kb, 1, none⟩ = some (.map (some n0)) ∧ w'.cell? ⟨xb, 1, none⟩ = some (.string x.m.key) ∧ w'.rangeAt xb 0 C) (by kernel_rfl) ?_ (fun hHeld => ?_)
        · exact ⟨HP3.out.c1, HRX3.out 1 _ (by rw [← HC.out]; rfl), HRX3.out⟩
        have k7 : Below V3.heap.size V3 V3.drew := (Below.refl _ _).drew
        obtain ⟨V7, hV7⟩ : ∃ V, V3.drew = V := ⟨_, rfl⟩
        rw [hV7] at k7 hHeld ⊢
        clear hV7
        have HP7 := Lib.hid (HP3.out.below k7)
        have HB7 := Lib.hid (HB3.out.trans (But.of_below (S := fun _ => False) k7) (fun _ _ h => h.elim))
        have HKS7 := Lib.hid ((But.of_below (S := fun _ => False) k7).row HKS3.out (fun _ _ h => h))
        have HMR7 := Lib.hid ((But.of_below (S := fun _ => False) k7).row HMR3.out (fun _ _ h => h))
        have HRX7 := Lib.hid (range_below HRX3.out k7 HLX3.out)
        have HLX7 := Lib.hid (Nat.lt_of_lt_of_le HLX3.out k7.size)
        have HV27 : Hid (V2.heap.size ≤ V7.heap.size) := Lib.hid (Nat.le_trans HV23.out k7.size)
        clear k7
        refine tk9 0 ?_
        refine tk9 1 ?_
        refine tk9 2 ?_
        refine tk9 3 ?_
        refine tk9 4 ?_
        refine tk9 5 ?_
        refine tk9 6 ?_
        refine tk9 7 ?_
        refine tk9 9 (hy := yieldsIf_load_mid (by rfl) 37 (.tmp 6) rfl xb 0 rfl C _ (fun w' hw => hw.2.2) Try.underlying37 rfl (by rw [HC9.out, wr_size])) ?_
        refine wpAnyH_ready (rs := [8, 10]) (by kernel_rfl) (by simp) ?_
        refine AllReadyH.cons rfl (fun K hK => ?_) (AllReadyH.cons rfl (fun K hK => ?_) (AllReadyH.nil))
        · rw [if_pos (by rfl)]
          refine wp_look 62 (.tmp 38) (.tmp 40) false rfl (.map (some n0)) (.string x.m.key) (.slice MA M.length mcap) rfl rfl (by rw [← HLK.out]; exact look_any V7 n0 mc x.m.key l HP7.out.h1) ?_
          refine hK.out _ _ ?_ (fun hHeld => ?_)
          · exact ⟨HP7.out.c1, HRX7.out 1 _ (by rw [← HC.out]; rfl), HRX7.out⟩
          clear hK K
          (try simp only [Act.put, List.setIfInBounds_toArray, List.set_cons_zero, List.set_cons_succ, List.getElem_toArray, List.getElem_cons_succ, List.getElem_cons_zero])
          refine wpAnyH_ready (rs := [10]) (by kernel_rfl) (by simp) ?_
          refine AllReadyH.cons rfl (fun K hK => ?_) (AllReadyH.nil)
          rw [if_pos (by rfl)]
          refine wp_buildSlice 24 37 1 _ rfl C.toArray iw _ Try.underlying24 hi hz (by rw [hs]; omega) (by rw [hs]; omega) (by rw [Array.toList_map]; exact fill9 iw hs (.agg #[.int .i64 0, .string ⟨#[]⟩, .int .i64 0, .int .i64 0, .int .i64 0, .slice none 0 0, .bool false, .int .i64 0, .bool false]) C HC9.out) ?_
          obtain ⟨V8, hV⟩ : ∃ V, V7.alloc (.cells C.toArray 37) = V := ⟨_, rfl⟩
          have ry : V8.rangeAt V7.heap.size 0 C := by rw [← hV]; exact range_new _ _ _
          have k8 : Below V7.heap.size V7 V8 := by rw [← hV]; exact (Below.refl _ _).alloc (Nat.le_refl _) _
          rw [hV]
          clear hV
          have HP8 := Lib.hid (HP7.out.below k8)
          have HB8 := Lib.hid (HB7.out.trans (But.of_below (S := fun _ => False) k8) (fun _ _ h => h.elim))
          have HKS8 := Lib.hid ((But.of_below (S := fun _ => False) k8).row HKS7.out (fun _ _ h => h))
          have HMR8 := Lib.hid ((But.of_below (S := fun _ => False) k8).row HMR7.out (fun _ _ h => h))
          have HRX8 := Lib.hid (range_below HRX7.out k8 HLX7.out)
          have HLX8 := Lib.hid (Nat.lt_of_lt_of_le HLX7.out k8.size)
          have HS8 := Lib.hid k8.size
          clear k8
          refine hK.out _ _ ?_ (fun hHeld => ?_)
          · exact ⟨HP8.out.c1, HRX8.out 1 _ (by rw [← HC.out]; rfl), HRX8.out⟩
          clear hK K
          (try simp only [Act.put, List.setIfInBounds_toArray, List.set_cons_zero, List.set_cons_succ, List.getElem_toArray, List.getElem_cons_succ, List.getElem_cons_zero])
          have HB8' : Hid (V2.heap.size ≤ V8.heap.size) := Lib.hid (Nat.le_trans HV27.out HS8.out)
          clear HS8
          generalize V7.heap.size = y at *
          have HRY := Lib.hid ry
          clear ry
          refine wpAnyH_ready (rs := [11]) (by kernel_rfl) (by simp) ?_
          refine AllReadyH.cons rfl (fun K hK => ?_) (AllReadyH.nil)
          refine step_append_lies _ rfl (.tmp 41) (.tmp 43) _ rfl V1.heap.size 37 iw _ 9 96 Try.underlying24 hi hz hs hby rfl (by decide) (.slice MA M.length mcap) M.length _ rfl HMR8.out ⟨y, 0, none⟩ 1 1 C rfl (by rw [HC9.out]) (fun j u hu => by rw [Addr.add_mid]; exact HRY.out j u hu) (by rw [← HC.out]; simp [Wq.cs, Value.oneCell']) (by omega) (by unfold maxLen; have := HML.out; omega) (by have := HML.out; omega) (Nat.le_trans HSZ2.out HB8'.out) _ rfl ?_
          intro g2 cap2 V9 hown hg hat hlt
          have b9 := But.of_grown (S := fun i => (Value.slice MA M.length mcap).ownBlock = some i) hg (fun i hi => hi)
          rw [← HC.out] at hown
          obtain ⟨v', hv'⟩ : ∃ v', Value.slice (some ⟨g2, 0, none⟩) (M.length + 1) cap2 = v' := ⟨_, rfl⟩
          have HVB : Hid (∀ i, v'.ownBlock = some i → (Value.slice MA M.length mcap).ownBlock = some i ∨ V8.heap.size ≤ i) := Lib.hid (fun i hi => by
            rw [← hv'] at hi
            have hgi : g2 = i := by simpa [Value.ownBlock] using hi
            subst hgi
            rcases hat with u | u
            · exact .inl u
            · exact .inr (by rw [u]; exact Nat.le_refl _))
          rw [hv'] at hown ⊢
          clear hv' hg hat hlt
          have HOW := Lib.hid hown
          clear hown
          have HP9 := Lib.hid (HP8.out.off b9 (fun e => by have := HMG.out _ e; have := HLT.out; omega) (fun e => by have := HMG.out _ e; have := HLT.out; omega) (fun e => by have := HMG.out _ e; have := HLT.out; omega))
          have HRX9 := Lib.hid (show V9.rangeAt xb 0 C from fun j u hu => (b9.cell xb _ HLX8.out (fun e => by have := HMG.out _ e; omega)).trans (HRX8.out j u hu))
          have HLX9 := Lib.hid (Nat.lt_of_lt_of_le HLX8.out b9.size)
          have HKS9 := Lib.hid (b9.row HKS8.out (fun i hi e => HNE.out i hi e))
          have HB9 := Lib.hid (HB8.out.trans (T := fun i => (Value.slice MA M.length mcap).ownBlock = some i) b9 (fun i _ e => Or.inr (Or.inr (Or.inr (by rw [HLK.out]; exact e)))))
          clear b9
          refine hK.out _ _ ?_ (fun hHeld => ?_)
          · exact ⟨HP9.out.c1, HRX9.out 1 _ (by rw [← HC.out]; rfl), HRX9.out⟩
          clear hK K
          (try simp only [Act.put, List.setIfInBounds_toArray, List.set_cons_zero, List.set_cons_succ, List.getElem_toArray, List.getElem_cons_succ, List.getElem_cons_zero])
          refine wpAnyH_ready (rs := [12]) (by kernel_rfl) (by simp) ?_
          refine AllReadyH.cons rfl (fun K hK => ?_) (AllReadyH.nil)
          rw [if_pos (by rfl)]
          refine wp_upd 62 (.tmp 34) (.tmp 36) (.tmp 44) rfl (.map (some n0)) (.string x.m.key) v' rfl rfl rfl (upd_any V9 n0 mc x.m.key v' l HP9.out.h1) ?_
          obtain ⟨V10, hV⟩ : ∃ V, setMap V9 n0 (.map ((updE x.m.key v' l mc).1.map En.e).toArray (updE x.m.key v' l mc).2) = V := ⟨_, rfl⟩
          have kq : But (fun k => k = n0) V9 V10 := by rw [← hV]; exact setMap_but _ _ _
          have hm : V10.heap[n0]? = some (.map ((updE x.m.key v' l mc).1.map En.e).toArray (updE x.m.key v' l mc).2) := by rw [← hV]; exact setMap_at _ HP9.out.l1
          rw [hV]
          clear hV
          have hp := HP9.out.map1 kq hm (by have := N.out; omega) (by have := N.out; omega)
          have hrx : V10.rangeAt xb 0 C := fun j u hu => (kq.cell xb _ HLX9.out (fun e => HXN.out.1 e.symm)).trans (HRX9.out j u hu)
          have HADD : Hid (Bld kb n0 r2 V1 L' (ws.take k ++ [x.m]) kv1 (updE x.m.key v' l mc).1 (updE x.m.key v' l mc).2 V10) := Lib.hid (HBD.out.add (x := x) (kv' := kv1) (v' := v') (L := M) (List.mem_of_getElem? HX.out) hp (kq.row HKS9.out (fun i hi e => by have := own_ge HKS9.out hi; have := HLT.out; omega)) HM.out.2.1 HM.out.2.2 (kq.row HOW.out (fun i hi e => by have := own_ge HOW.out hi; have := HLT.out; omega)) (HB9.out.trans kq (fun i _ e => Or.inr (Or.inl e))) (fun i hi => by
            rcases HVB.out i hi with e | e
            · exact .inl (by rw [HLK.out]; exact e)
            · exact .inr (by have := HB8.out.size; omega)) (fun i hi => by
            rcases HF3.out i hi with e | e
            · exact .inl e
            · exact .inr (by have := HW2.out; omega)) (fun i hi e => by
            rcases HVB.out i hi with u | u
            · exact HNE.out i e u
            · have := row_lt HKS8.out e; omega) HLT.out.1 HLT.out.2.1)
          clear kq hm
          refine hK.out _ _ ?_ (fun hHeld => ?_)
          · exact ⟨hp.c1, hrx 1 _ (by rw [← HC.out]; rfl), hrx⟩
          clear hK K
          (try simp only [Act.put, List.setIfInBounds_toArray, List.set_cons_zero, List.set_cons_succ, List.getElem_toArray, List.getElem_cons_succ, List.getElem_cons_zero])
          refine wpAnyH_done (by kernel_rfl) ?_ _
          clear hrx hp hHeld HOW HVB
          go_wp2_with fail
          go_roundw
          case rel => exact ⟨k + 1, by omega, by simp, kv1, (updE x.m.key v' l mc).1, (updE x.m.key v' l mc).2, Lib.hid (by rw [HTK.out]; exact HADD.out)⟩
          all_goals ((try simp only [intOf]); omega)
        · rw [if_pos (by rfl)]
          refine wp_buildSlice 24 37 1 _ rfl C.toArray iw _ Try.underlying24 hi hz (by rw [hs]; omega) (by rw [hs]; omega) (by rw [Array.toList_map]; exact fill9 iw hs (.agg #[.int .i64 0, .string ⟨#[]⟩, .int .i64 0, .int .i64 0, .int .i64 0, .slice none 0 0, .bool false, .int .i64 0, .bool false]) C HC9.out) ?_
          obtain ⟨V8, hV⟩ : ∃ V, V7.alloc (.cells C.toArray 37) = V := ⟨_, rfl⟩
          have ry : V8.rangeAt V7.heap.size 0 C := by rw [← hV]; exact range_new _ _ _
          have k8 : Below V7.heap.size V7 V8 := by rw [← hV]; exact (Below.refl _ _).alloc (Nat.le_refl _) _
          rw [hV]
          clear hV
          have HP8 := Lib.hid (HP7.out.below k8)
          have HB8 := Lib.hid (HB7.out.trans (But.of_below (S := fun _ => False) k8) (fun _ _ h => h.elim))
          have HKS8 := Lib.hid ((But.of_below (S := fun _ => False) k8).row HKS7.out (fun _ _ h => h))
          have HMR8 := Lib.hid ((But.of_below (S := fun _ => False) k8).row HMR7.out (fun _ _ h => h))
          have HRX8 := Lib.hid (range_below HRX7.out k8 HLX7.out)
          have HLX8 := Lib.hid (Nat.lt_of_lt_of_le HLX7.out k8.size)
          have HS8 := Lib.hid k8.size
          clear k8
          refine hK.out _ _ ?_ (fun hHeld => ?_)
          · exact ⟨HP8.out.c1, HRX8.out 1 _ (by rw [← HC.out]; rfl), HRX8.out⟩
          clear hK K
          (try simp only [Act.put, List.setIfInBounds_toArray, List.set_cons_zero, List.set_cons_succ, List.getElem_toArray, List.getElem_cons_succ, List.getElem_cons_zero])
          have HB8' : Hid (V2.heap.size ≤ V8.heap.size) := Lib.hid (Nat.le_trans HV27.out HS8.out)
          clear HS8
          generalize V7.heap.size = y at *
          have HRY := Lib.hid ry
          clear ry
          refine wpAnyH_ready (rs := [8]) (by kernel_rfl) (by simp) ?_
          refine AllReadyH.cons rfl (fun K hK => ?_) (AllReadyH.nil)
          rw [if_pos (by rfl)]
          refine wp_look 62 (.tmp 38) (.tmp 40) false rfl (.map (some n0)) (.string x.m.key) (.slice MA M.length mcap) rfl rfl (by rw [← HLK.out]; exact look_any V8 n0 mc x.m.key l HP8.out.h1) ?_
          refine hK.out _ _ ?_ (fun hHeld => ?_)
          · exact ⟨HP8.out.c1, HRX8.out 1 _ (by rw [← HC.out]; rfl), HRX8.out⟩
          clear hK K
          (try simp only [Act.put, List.setIfInBounds_toArray, List.set_cons_zero, List.set_cons_succ, List.getElem_toArray, List.getElem_cons_succ, List.getElem_cons_zero])
          refine wpAnyH_ready (rs := [11]) (by kernel_rfl) (by simp) ?_
          refine AllReadyH.cons rfl (fun K hK => ?_) (AllReadyH.nil)
          refine step_append_lies _ rfl (.tmp 41) (.tmp 43) _ rfl V1.heap.size 37 iw _ 9 96 Try.underlying24 hi hz hs hby rfl (by decide) (.slice MA M.length mcap) M.length _ rfl HMR8.out ⟨y, 0, none⟩ 1 1 C rfl (by rw [HC9.out]) (fun j u hu => by rw [Addr.add_mid]; exact HRY.out j u hu) (by rw [← HC.out]; simp [Wq.cs, Value.oneCell']) (by omega) (by unfold maxLen; have := HML.out; omega) (by have := HML.out; omega) (Nat.le_trans HSZ2.out HB8'.out) _ rfl ?_
          intro g2 cap2 V9 hown hg hat hlt
          have b9 := But.of_grown (S := fun i => (Value.slice MA M.length mcap).ownBlock = some i) hg (fun i hi => hi)
          rw [← HC.out] at hown
          obtain ⟨v', hv'⟩ : ∃ v', Value.slice (some ⟨g2, 0, none⟩) (M.length + 1) cap2 = v' := ⟨_, rfl⟩
          have HVB : Hid (∀ i, v'.ownBlock = some i → (Value.slice MA M.length mcap).ownBlock = some i ∨ V8.heap.size ≤ i) := Lib.hid (fun i hi => by
            rw [← hv'] at hi
            have hgi : g2 = i := by simpa [Value.ownBlock] using hi
            subst hgi
            rcases hat with u | u
            · exact .inl u
            · exact .inr (by rw [u]; exact Nat.le_refl _))
          rw [hv'] at hown ⊢
          clear hv' hg hat hlt
          have HOW := Lib.hid hown
          clear hown
          have HP9 := Lib.hid (HP8.out.off b9 (fun e => by have := HMG.out _ e; have := HLT.out; omega) (fun e => by have := HMG.out _ e; have := HLT.out; omega) (fun e => by have := HMG.out _ e; have := HLT.out; omega))
          have HRX9 := Lib.hid (show V9.rangeAt xb 0 C from fun j u hu => (b9.cell xb _ HLX8.out (fun e => by have := HMG.out _ e; omega)).trans (HRX8.out j u hu))
          have HLX9 := Lib.hid (Nat.lt_of_lt_of_le HLX8.out b9.size)
          have HKS9 := Lib.hid (b9.row HKS8.out (fun i hi e => HNE.out i hi e))
          have HB9 := Lib.hid (HB8.out.trans (T := fun i => (Value.slice MA M.length mcap).ownBlock = some i) b9 (fun i _ e => Or.inr (Or.inr (Or.inr (by rw [HLK.out]; exact e)))))
          clear b9
          refine hK.out _ _ ?_ (fun hHeld => ?_)
          · exact ⟨HP9.out.c1, HRX9.out 1 _ (by rw [← HC.out]; rfl), HRX9.out⟩
          clear hK K
          (try simp only [Act.put, List.setIfInBounds_toArray, List.set_cons_zero, List.set_cons_succ, List.getElem_toArray, List.getElem_cons_succ, List.getElem_cons_zero])
          refine wpAnyH_ready (rs := [12]) (by kernel_rfl) (by simp) ?_
          refine AllReadyH.cons rfl (fun K hK => ?_) (AllReadyH.nil)
          rw [if_pos (by rfl)]
          refine wp_upd 62 (.tmp 34) (.tmp 36) (.tmp 44) rfl (.map (some n0)) (.string x.m.key) v' rfl rfl rfl (upd_any V9 n0 mc x.m.key v' l HP9.out.h1) ?_
          obtain ⟨V10, hV⟩ : ∃ V, setMap V9 n0 (.map ((updE x.m.key v' l mc).1.map En.e).toArray (updE x.m.key v' l mc).2) = V := ⟨_, rfl⟩
          have kq : But (fun k => k = n0) V9 V10 := by rw [← hV]; exact setMap_but _ _ _
          have hm : V10.heap[n0]? = some (.map ((updE x.m.key v' l mc).1.map En.e).toArray (updE x.m.key v' l mc).2) := by rw [← hV]; exact setMap_at _ HP9.out.l1
          rw [hV]
          clear hV
          have hp := HP9.out.map1 kq hm (by have := N.out; omega) (by have := N.out; omega)
          have hrx : V10.rangeAt xb 0 C := fun j u hu => (kq.cell xb _ HLX9.out (fun e => HXN.out.1 e.symm)).trans (HRX9.out j u hu)
          have HADD : Hid (Bld kb n0 r2 V1 L' (ws.take k ++ [x.m]) kv1 (updE x.m.key v' l mc).1 (updE x.m.key v' l mc).2 V10) := Lib.hid (HBD.out.add (x := x) (kv' := kv1) (v' := v') (L := M) (List.mem_of_getElem? HX.out) hp (kq.row HKS9.out (fun i hi e => by have := own_ge HKS9.out hi; have := HLT.out; omega)) HM.out.2.1 HM.out.2.2 (kq.row HOW.out (fun i hi e => by have := own_ge HOW.out hi; have := HLT.out; omega)) (HB9.out.trans kq (fun i _ e => Or.inr (Or.inl e))) (fun i hi => by
            rcases HVB.out i hi with e | e
            · exact .inl (by rw [HLK.out]; exact e)
            · exact .inr (by have := HB8.out.size; omega)) (fun i hi => by
            rcases HF3.out i hi with e | e
            · exact .inl e
            · exact .inr (by have := HW2.out; omega)) (fun i hi e => by
            rcases HVB.out i hi with u | u
            · exact HNE.out i e u
            · have := row_lt HKS8.out e; omega) HLT.out.1 HLT.out.2.1)
          clear kq hm
          refine hK.out _ _ ?_ (fun hHeld => ?_)
          · exact ⟨hp.c1, hrx 1 _ (by rw [← HC.out]; rfl), hrx⟩
          clear hK K
          (try simp only [Act.put, List.setIfInBounds_toArray, List.set_cons_zero, List.set_cons_succ, List.getElem_toArray, List.getElem_cons_succ, List.getElem_cons_zero])
          refine wpAnyH_done (by kernel_rfl) ?_ _
          clear hrx hp hHeld HOW HVB
          go_wp2_with fail
          go_roundw
          case rel => exact ⟨k + 1, by omega, by simp, kv1, (updE x.m.key v' l mc).1, (updE x.m.key v' l mc).2, Lib.hid (by rw [HTK.out]; exact HADD.out)⟩
          all_goals ((try simp only [intOf]); omega)
    · have e0 : k = L'.length := by omega
      subst e0
      have t3 : decide ((L'.length : Int) < (L'.length : Int)) = false := by simp
      have hb := HBD.out
      rw [HLW.out, List.take_length] at hb
      obtain ⟨KA, kc, rfl, hs⟩ := sort_keys _ _ _ _ hb.ks (Nat.le_trans (firsts_len _) (by rw [List.length_map]; exact HWL.out))
      have c0 := hb.pk.c0
      have HS := Lib.hid hs
      have HBX := Lib.hid hb
      have HBW : Hid (Below w.heap.size w wr) := Lib.hid (HB1.out.trans (hb.bu.below (fun i hi => by have := N.out; have := HN0.out; rcases hi with q | q <;> omega) HB1.out.size))
      clear hb hs h1 hk
      go_wp2_with (go_at_call 16; refine HS.out.mono ?_; rintro e2 V2 ⟨rfl, k2, hs2⟩)
      have hq := HBX.out.sorted HLT.out.1 HLT.out.2.1 HLT.out.2.2 k2 HLq.out HWL.out
      have HK2 : Hid (Kst kb n0 r2 ws (keysOf ws) ([], 0) V2) := Lib.hid ⟨⟨l, mc, KA, kc, by rw [keysOf_n]; exact hq.1.c0, hq.1.h1, hq.2.1, hs2⟩, hq.1.c1, hq.1.c2, hq.1.h2, hq.1.lt⟩
      have HB2 : Hid (Below w.heap.size w V2) := Lib.hid (HB1.out.trans (hq.2.2.below (fun i hi => by have := N.out; have := HN0.out; rcases hi with q | q <;> omega) HB1.out.size))
      clear hq hs2 k2
      clear c0 t3
      generalize wr = wv at *
      go_loopw [51] (fun i wr => ∃ (k : Nat) (S : List Sn × Nat), k ≤ L.length ∧ i = .int .i64 (k : Int) ∧ Hid (chkR ws (keysOf ws) S k (L.drop k) = res) ∧ Hid (Kst kb n0 r2 ws (keysOf ws) S wr) ∧ Below w.heap.size w wr) (fun i _ => L.length - (intOf i).toNat)
      case atStart => exact ⟨0, ([], 0), by omega, by simp, HE, HK2, HB2.out⟩
      case round =>
        obtain ⟨k, S, hk, rfl, HC, HK, hb⟩ := hrel
        have HB := Lib.hid hb
        clear hb
        by_cases h1 : k < L.length
        · have wk : IntKind.i64.wrap ((k : Int) + 1) = (k : Int) + 1 := IntWalk.i64_in _ (by omega)
          have t11 : decide ((k : Int) < (L.length : Int)) = true := by simpa using h1
          have hki : (k : Int) < (L.length : Int) := by omega
          obtain ⟨a, hx⟩ : ∃ x, L[k]? = some x := ⟨_, List.getElem?_eq_getElem h1⟩
          have HDR : Hid (L.drop k = a :: L.drop (k + 1)) := Lib.hid (by
            obtain ⟨hl, rfl⟩ := List.getElem?_eq_some_iff.1 hx
            rw [List.drop_eq_getElem_cons hl])
          have HIN := Lib.hid (HEE.out a (List.mem_of_getElem? hx))
          have hrg := Ev.range (HR.out.below HB.out) (show (L.map EvA.e)[k]? = some a.e from by rw [List.getElem?_map, hx]; rfl)
          obtain ⟨Y, hY⟩ : ∃ Y : List Value, (a.e).cs = Y := ⟨_, rfl⟩
          rw [hY] at hrg
          have HSZ : Hid (Y.length = 18) := Lib.hid (by rw [← hY]; rfl)
          have hone : Y.toArray.all (·.oneCell') = true := by rw [← hY]; exact Ev.one _
          have HY := Lib.hid hY
          clear hY hx
          go_upto_region 12 with fail
          refine wp_region_lit ?_
          refine wpList_plain rfl (fun KK hKK => ?_)
          go_simp
          refine hKK _ _ ?_
          refine wpList_plain rfl (fun KK hKK => ?_)
          go_simp
          refine hKK _ _ ?_
          refine wpList_load_mid rfl 47 (.tmp 54) rfl B (O + k * 18) (by first | rfl | simp) Y _ hrg Try.underlying47 rfl (by rw [HSZ.out, ev_info]) ?_
          refine wpList_plain rfl (fun KK hKK => ?_)
          go_simp
          refine hKK _ _ ?_
          refine wpList_plain rfl (fun KK hKK => ?_)
          go_simp
          refine hKK _ _ ?_
          refine wpList_store_new25 rfl 47 (.tmp 8) (.tmp 55) rfl evZ Y.toArray rfl rfl (by rw [ev_info, List.size_toArray, HSZ.out]) (by rw [show Y.toArray.size = 18 from (List.size_toArray ..).trans HSZ.out]; rfl) hone ?_
          refine wpList_nil ?_
          obtain ⟨V3, hV⟩ : ∃ V, wr.alloc (.cells Y.toArray 47) = V := ⟨_, rfl⟩
          have rx : V3.rangeAt wr.heap.size 0 Y := by rw [← hV]; exact range_new _ _ _
          have k3 : Below wr.heap.size wr V3 := by rw [← hV]; exact (Below.refl _ _).alloc (Nat.le_refl _) _
          have y11 : V3.cell? ⟨wr.heap.size, 11, none⟩ = some (.int .i64 a.e.er) := rx 11 _ (by rw [← HY.out]; rfl)
          rw [hV]
          clear hV hrg hone
          have HK3 := Lib.hid (HK.out.below k3)
          have HB3 := Lib.hid (HB.out.trans (k3.mono HB.out.size))
          clear k3
          have HCO : Hid (∀ W : World, W = V3 → Calls Try.prog 17 #[.pointer (some ⟨kb, 0, none⟩), .agg Y.toArray] W fun e' w' => e' = .returned (.bool (couldB ws (keysOf ws) S a)) ∧ But (fun i => i = r2) W w' ∧ Kst kb n0 r2 ws (keysOf ws) (snapS S a) w') := Lib.hid (fun W hW => by
            subst hW
            rw [← HY.out]
            exact could_any kb n0 r2 ws (keysOf ws) S a _ HK3.out (HIN.out.below HB3.out) (by have := N.out; omega) (by have := N.out; omega) HKL.out)
          generalize wr.heap.size = x at *
          by_cases her : a.e.er = 0
          · have tr : (a.e.er == 0) = true := by rw [her]; rfl
            obtain ⟨bc, hbc⟩ : ∃ b, couldB ws (keysOf ws) S a = b := ⟨_, rfl⟩
            rw [hbc] at HCO
            have HBC := Lib.hid hbc
            have HER := Lib.hid her
            clear hbc her
            go_upto_region 13 with fail
            refine wp_region_lit ?_
            refine wpList_plain rfl (fun KK hKK => ?_)
            go_simp
            refine hKK _ _ ?_
            refine wpList_plain rfl (fun KK hKK => ?_)
            go_simp
            refine hKK _ _ ?_
            refine wpList_plain rfl (fun KK hKK => ?_)
            go_simp
            refine hKK _ _ ?_
            refine wpList_plain rfl (fun KK hKK => ?_)
            go_simp
            refine hKK _ _ ?_
            refine wpList_plain rfl (fun KK hKK => ?_)
            go_simp
            refine hKK _ _ ?_
            refine wpList_step (fun KK hKK => ?_)
            rw [if_pos (by rfl)]
            refine wp_load_mid 47 (.tmp 8) rfl x 0 rfl Y _ rx Try.underlying47 rfl (by rw [HSZ.out, ev_info]) ?_
            refine hKK _ _ ?_
            clear rx y11
            refine wpList_step (fun KK hKK => ?_)
            rw [if_pos (by rfl)]
            go_simp
            (go_at_call 17; refine (HCO.out _ rfl).mono ?_; rintro e3 V4 ⟨rfl, k4, hk4⟩)
            have HB4 := Lib.hid (HB3.out.trans (k4.below (fun i hi => by have := N.out; have := HN0.out; omega) HB3.out.size))
            have HK4 := Lib.hid hk4
            clear k4 hk4
            refine hKK _ _ ?_
            refine wpList_step (fun KK hKK => ?_)
            go_simp
            refine hKK _ _ ?_
            refine wpList_step (fun KK hKK => ?_)
            go_simp
            refine hKK _ _ ?_
            refine wpList_nil ?_
            clear HSZ HY
            cases bc
            · have HN : Hid (res = (k, true)) := Lib.hid (by rw [← HC.out, HDR.out, chkR_out HER.out HBC.out])
              go_wp2_with fail
              go_ret2
              exact ⟨by rw [HN.out]; rfl, HB4.out⟩
            · have HN : Hid (chkR ws (keysOf ws) (snapS S a) (k + 1) (L.drop (k + 1)) = res) := Lib.hid (by rw [← HC.out, HDR.out, chkR_on HER.out HBC.out])
              go_wp2_with fail
              go_roundw
              case rel => exact ⟨k + 1, snapS S a, by omega, by simp, HN, HK4, HB4.out⟩
              all_goals ((try simp only [intOf]); omega)
          · have tr : (a.e.er == 0) = false := by simpa using her
            have HN : Hid (chkR ws (keysOf ws) S (k + 1) (L.drop (k + 1)) = res) := Lib.hid (by rw [← HC.out, HDR.out, chkR_skip her])
            clear her rx
            go_wp2_with fail
            go_roundw
            case rel => exact ⟨k + 1, S, by omega, by simp, HN, HK3, HB3.out⟩
            all_goals ((try simp only [intOf]); omega)
        · have t11 : decide ((k : Int) < (L.length : Int)) = false := by simpa using h1
          have HN : Hid (res = (0, false)) := Lib.hid (by rw [← HC.out, List.drop_eq_nil_of_le (by omega)]; rfl)
          go_wp2_with fail
          go_ret2
          exact ⟨by rw [HN.out]; rfl, HB.out⟩
end Go.Proofs.Ytdjhpajmbddffaa

/- Stage 25: events that tell nothing change nothing but numbers (plain mathematics). -/
namespace Go.Proofs.Ytdjhpajmbddffaa
open Go.RowKit

/-- An event that tells nothing. -/
def Neu (a : EvA) : Prop := ¬ ((1 ≤ a.e.kd ∧ a.e.kd ≤ 5) ∧ (a.e.er = 0 ∨ a.e.er = 9))
theorem neu_w {a : EvA} (h : Neu a) (p : List Int) : wOf a.e p = none := by
  unfold wOf
  rw [if_neg]
  rintro ⟨h1, h2⟩
  exact h ⟨by omega, h2⟩
theorem neu_c {a : EvA} (h : Neu a) (h0 : a.e.er = 0) (ws : List Wm) (keys : List ByteArray) (S : List Sn × Nat) : couldB ws keys S a = true ∧ snapS S a = S := by
  have hk : ¬ (1 ≤ a.e.kd ∧ a.e.kd ≤ 5) := fun q => h ⟨q, .inl h0⟩
  constructor
  · unfold couldB
    rw [if_neg (by omega), if_neg (by omega), if_neg (by omega), if_neg (by omega)]
  · exact if_neg (by omega)
/-- All writes. -/
def wsL (L : List EvA) : List Wm := L.filterMap (fun a => wOf a.e a.p)
theorem wsN_take (L : List EvA) : ∀ k, k ≤ L.length → wsN (L.map EvA.e) (pvOf L) k = wsL (L.take k)
  | 0, _ => by simp [wsN_zero, wsL]
  | k + 1, h => by
    have hx : L[k]? = some L[k] := List.getElem?_eq_getElem (by omega)
    have he : (L.map EvA.e)[k]? = some L[k].e := by rw [List.getElem?_map, hx]; rfl
    rw [wsN_step he, wsN_take L k (by omega), List.take_add_one, hx]
    have hp : pvOf L k = L[k].p := by unfold pvOf; rw [hx]; rfl
    unfold wsL
    rw [List.filterMap_append, hp]
    congr 1
    all_goals (try (show _ = List.filterMap _ [L[k]]; cases hw : wOf L[k].e L[k].p <;> simp [hw]))
theorem wsN_L (L : List EvA) : wsN (L.map EvA.e) (pvOf L) L.length = wsL L := by
  rw [wsN_take L _ (Nat.le_refl _), List.take_length]
theorem wsL_ins {a : EvA} (h : Neu a) (l1 l2 : List EvA) : wsL (l1 ++ a :: l2) = wsL (l1 ++ l2) := by
  unfold wsL
  rw [List.filterMap_append, List.filterMap_append, List.filterMap_cons, neu_w h]
theorem chkR_neu {a : EvA} (h : Neu a) (ws : List Wm) (keys : List ByteArray) (S : List Sn × Nat) (i : Nat) (t : List EvA) : chkR ws keys S i (a :: t) = chkR ws keys S (i + 1) t := by
  by_cases h0 : a.e.er = 0
  · have := neu_c h h0 ws keys S
    rw [chkR_on h0 this.1, this.2]
  · exact chkR_skip h0
theorem chkR_shift (ws : List Wm) (keys : List ByteArray) : ∀ (t : List EvA) (S : List Sn × Nat) (i : Nat), ((chkR ws keys S i t).2 = true → i ≤ (chkR ws keys S i t).1) ∧ ((chkR ws keys S i t).2 = false → (chkR ws keys S i t).1 = 0) ∧ chkR ws keys S (i + 1) t = if (chkR ws keys S i t).2 = true then ((chkR ws keys S i t).1 + 1, true) else (0, false)
  | [], S, i => ⟨(fun h => by cases h), fun _ => rfl, rfl⟩
  | a :: t, S, i => by
    by_cases h0 : a.e.er = 0
    · cases hc : couldB ws keys S a
      · rw [chkR_out h0 hc, chkR_out h0 hc]
        exact ⟨fun _ => Nat.le_refl _, (fun h => by cases h), rfl⟩
      · rw [chkR_on h0 hc, chkR_on h0 hc]
        obtain ⟨q1, q2, q3⟩ := chkR_shift ws keys t (snapS S a) (i + 1)
        exact ⟨fun h => by have := q1 h; omega, q2, q3⟩
    · rw [chkR_skip h0, chkR_skip h0]
      obtain ⟨q1, q2, q3⟩ := chkR_shift ws keys t S (i + 1)
      exact ⟨fun h => by have := q1 h; omega, q2, q3⟩
theorem chkR_ins {a : EvA} (h : Neu a) (ws : List Wm) (keys : List ByteArray) (l2 : List EvA) : ∀ (l1 : List EvA) (S : List Sn × Nat) (i : Nat),
    chkR ws keys S i (l1 ++ a :: l2) = ((if (chkR ws keys S i (l1 ++ l2)).2 = true ∧ i + l1.length ≤ (chkR ws keys S i (l1 ++ l2)).1 then (chkR ws keys S i (l1 ++ l2)).1 + 1 else (chkR ws keys S i (l1 ++ l2)).1), (chkR ws keys S i (l1 ++ l2)).2)
  | [], S, i => by
    rw [List.nil_append, List.nil_append, chkR_neu h]
    obtain ⟨q1, q2, q3⟩ := chkR_shift ws keys l2 S i
    rw [q3]
    cases hb : (chkR ws keys S i l2).2
    · rw [if_neg (by simp), if_neg (by simp), q2 hb]
    · rw [if_pos rfl, if_pos ⟨rfl, by have := q1 hb; simpa using this⟩]
  | b :: t, S, i => by
    have e1 : i + (b :: t).length = i + 1 + t.length := by rw [List.length_cons]; omega
    rw [List.cons_append, List.cons_append, e1]
    by_cases h0 : b.e.er = 0
    · cases hc : couldB ws keys S b
      · rw [chkR_out h0 hc, chkR_out h0 hc, if_neg (by show ¬ (true = true ∧ i + 1 + t.length ≤ i); omega)]
      · rw [chkR_on h0 hc, chkR_on h0 hc]
        exact chkR_ins h ws keys l2 t (snapS S b) (i + 1)
    · rw [chkR_skip h0, chkR_skip h0]
      exact chkR_ins h ws keys l2 t S (i + 1)
end Go.Proofs.Ytdjhpajmbddffaa

/- Stage 25: an argument that is a step; the event of a step and an error. -/
namespace Go.Proofs.Ytdjhpajmbddffaa
open Go.ChangeShapes Go.WideShapes Go.ChangeAt Go.RowKit Go.Joins Go.Deep

/-- The event of a step (its bytes at A) and an error. -/
def mkEv (kd nd nn mm by8 sm sc : Int) (key hi : ByteArray) (A : Option Addr) (p : List Int) (vc : Nat) (er : Int) : EvA := ⟨⟨0, kd, nd, nn, mm, by8, sm, sc, key, hi, A, p.length, vc, er, 0, 0, 0, false, none, 0, 0, none, 0, 0⟩, p, [], []⟩
theorem mkEv_in {w : World} {kd nd nn mm by8 sm sc : Int} {key hi : ByteArray} {A : Option Addr} {p : List Int} {vc : Nat} {er : Int} (h1 : ByL w A p) (h2 : isBy p) (h3 : A = none → p.length = 0) (h4 : p.length ≤ maxLen) : EvIn w (mkEv kd nd nn mm by8 sm sc key hi A p vc er) where
  vl := rfl
  vby := h1
  vis := h2
  vn := h3
  vm := h4
  bl := rfl
  bby := fun h => absurd h (Nat.lt_irrefl 0)
  bis := fun _ h => by cases h
  bn := fun _ => rfl
  bm := Nat.zero_le _
  pl := rfl
  row := fun h => absurd h (Nat.lt_irrefl 0)
  all := fun _ h => by cases h
  pn := fun _ => rfl
  pm := Nat.zero_le _
theorem step_cells : Try.prog.cellsOf 41 = 10 := by kernel_rfl
set_option maxRecDepth 100000 in
set_option maxHeartbeats 4000000 in
theorem step_trod {H : Type} {enc : TypeId × Value → H} {w : World} {base : Nat} {sp : Nat → Bool} (n : Nat) (cs : List Value) (x : DataW H × List MemPlace) (hl : cs.length = 10) (hf : DataW.trod enc Try.prog w base sp true n 41 cs = some x) :
    ∃ (kd nd nn mm by8 sm sc : Int) (key hi : ByteArray) (A : Option Addr) (p : List Int) (vc : Nat), cs = [.int .i64 kd, .int .i64 nd, .int .i64 nn, .int .i64 mm, .int .u8 by8, .int .i64 sm, .int .i64 sc, .string key, .string hi, .slice A p.length vc] ∧ ByL w A p ∧ isBy p ∧ (A = none → p.length = 0) ∧ p.length ≤ maxLen := by
  match cs, hl with
  | [c1, c2, c3, c4, c5, c6, c7, c8, c9, c10], _ =>
    obtain ⟨ys, n1, _, _, _, hlys, hgys⟩ := DataW.trod_struct Try.underlying41 hf
    have hlys' : ys.length = 9 := hlys
    have gys0 := hgys 0 _ rfl
    have gys1 := hgys 1 _ rfl
    have gys2 := hgys 2 _ rfl
    have gys3 := hgys 3 _ rfl
    have gys4 := hgys 4 _ rfl
    have gys5 := hgys 5 _ rfl
    have gys6 := hgys 6 _ rfl
    have gys7 := hgys 7 _ rfl
    have gys8 := hgys 8 _ rfl
    rw [List.getElem?_eq_getElem (by omega)] at gys0 gys1 gys2 gys3 gys4 gys5 gys6 gys7 gys8
    have kys0 : DataW.trod enc Try.prog w base sp true n1 3 [c1] = some ys[0] := gys0
    have kys1 : DataW.trod enc Try.prog w base sp true n1 3 [c2] = some ys[1] := gys1
    have kys2 : DataW.trod enc Try.prog w base sp true n1 3 [c3] = some ys[2] := gys2
    have kys3 : DataW.trod enc Try.prog w base sp true n1 3 [c4] = some ys[3] := gys3
    have kys4 : DataW.trod enc Try.prog w base sp true n1 5 [c5] = some ys[4] := gys4
    have kys5 : DataW.trod enc Try.prog w base sp true n1 32 [c6, c7] = some ys[5] := gys5
    have kys6 : DataW.trod enc Try.prog w base sp true n1 9 [c8] = some ys[6] := gys6
    have kys7 : DataW.trod enc Try.prog w base sp true n1 9 [c9] = some ys[7] := gys7
    have kys8 : DataW.trod enc Try.prog w base sp true n1 33 [c10] = some ys[8] := gys8
    obtain ⟨zs, n2, _, _, _, hlzs, hgzs⟩ := DataW.trod_struct Try.underlying32 kys5
    have hlzs' : zs.length = 2 := hlzs
    have gzs0 := hgzs 0 _ rfl
    have gzs1 := hgzs 1 _ rfl
    rw [List.getElem?_eq_getElem (by omega)] at gzs0 gzs1
    have kzs0 : DataW.trod enc Try.prog w base sp true n2 3 [c6] = some zs[0] := gzs0
    have kzs1 : DataW.trod enc Try.prog w base sp true n2 3 [c7] = some zs[1] := gzs1
    obtain ⟨kd, e_kd, _, _⟩ := DataW.trod_int Try.underlying3 kys0
    obtain ⟨nd, e_nd, _, _⟩ := DataW.trod_int Try.underlying3 kys1
    obtain ⟨nn, e_nn, _, _⟩ := DataW.trod_int Try.underlying3 kys2
    obtain ⟨mm, e_mm, _, _⟩ := DataW.trod_int Try.underlying3 kys3
    obtain ⟨by8, e_by8, _, _⟩ := DataW.trod_int Try.underlying5 kys4
    obtain ⟨sm, e_sm, _, _⟩ := DataW.trod_int Try.underlying3 kzs0
    obtain ⟨sc, e_sc, _, _⟩ := DataW.trod_int Try.underlying3 kzs1
    obtain ⟨key, e_key, _⟩ := DataW.trod_string Try.underlying9 kys6
    obtain ⟨hi, e_hi, _⟩ := DataW.trod_string Try.underlying9 kys7
    obtain ⟨A, p, vc, e_A, hle, hmx, a1, a2, a3, _⟩ := open_bytes kys8
    simp only [List.cons.injEq, and_true] at e_kd e_nd e_nn e_mm e_by8 e_sm e_sc e_key e_hi e_A
    subst e_kd e_nd e_nn e_mm e_by8 e_sm e_sc e_key e_hi e_A
    exact ⟨kd, nd, nn, mm, by8, sm, sc, key, hi, A, p, vc, rfl, a1, a2, a3, by omega⟩
set_option maxRecDepth 100000 in
theorem open_step {H : Type} {enc : TypeId × Value → H} {w : World} {r : Reach} {base b0 : Nat} {sp : Nat → Bool} {v : Value} {d : DataW H} {pl : List MemPlace}
    (hv : Value.okWide Try.prog w r b0 41 v) (h : DataW.Trod enc Try.prog w base sp true 41 v d pl) :
    ∃ (kd nd nn mm by8 sm sc : Int) (key hi : ByteArray) (A : Option Addr) (p : List Int) (vc : Nat), v = .agg #[.int .i64 kd, .int .i64 nd, .int .i64 nn, .int .i64 mm, .int .u8 by8, .int .i64 sm, .int .i64 sc, .string key, .string hi, .slice A p.length vc] ∧ ByL w A p ∧ isBy p ∧ (A = none → p.length = 0) ∧ p.length ≤ maxLen := by
  obtain ⟨cs, rfl, hsz⟩ := okWide_struct Try.underlying41 hv
  obtain ⟨fuel, hf⟩ := h
  have hl : (Value.agg cs).cells.size = 10 := by rw [show (Value.agg cs).cells = cs from by simp [Value.cells], hsz, step_cells]
  obtain ⟨kd, nd, nn, mm, by8, sm, sc, key, hi, A, p, vc, he, q⟩ := step_trod fuel _ _ (by simpa using hl) hf
  refine ⟨kd, nd, nn, mm, by8, sm, sc, key, hi, A, p, vc, ?_, q⟩
  rw [show (Value.agg cs).cells = cs from by simp [Value.cells]] at he
  exact congrArg Value.agg (Array.toList_inj.1 (he.trans rfl))
end Go.Proofs.Ytdjhpajmbddffaa

/- Stage 25: Check, Writes and heavyAll of any list of events, an empty one too. -/
namespace Go.Proofs.Ytdjhpajmbddffaa
open Go.RowKit Go.ChangeShapes Go.WideShapes Go.ChangeAt Go.Joins

theorem rowE_of {w : World} {A : Option Addr} {L : List EvA} (h : RowG (fun a : EvA => a.e.cs) w A L) (h0 : 0 < L.length) : ∃ B O, A = some ⟨B, O, none⟩ ∧ RowE w B O (L.map EvA.e) := by
  obtain ⟨B, O, rfl, hB, hc⟩ := h h0
  refine ⟨B, O, rfl, hB, fun k e hk j u hu => ?_⟩
  rw [List.getElem?_map] at hk
  obtain ⟨a, ha, rfl⟩ := Option.map_eq_some_iff.1 hk
  have hj : j < 18 := by
    have := (List.getElem?_eq_some_iff.1 hu).1
    rwa [Ev.len] at this
  have := hc (k * 18 + j) u (by rw [fm_at (fun a : EvA => a.e.cs) 18 (fun _ => rfl) ha j hj]; exact hu)
  rwa [← Nat.add_assoc] at this
theorem heavy_none (A : Option Addr) (c : Nat) (w : World) : Calls Try.prog 6 #[.slice A 0 c] w fun e w' => e = .returned (.bool false) ∧ Below w.heap.size w w' := by
  go_enter Try.func6, Try.ntmps6
  go_wp2_with fail
  refine wp_loop_rounds 1 ?_
  rw [rounds_succ]
  go_wp2_with fail
  go_ret
  exact ⟨by first | rfl | simp, Below.refl _ _⟩
theorem cw_none (A : Option Addr) (c : Nat) (w : World) : Calls Try.prog 7 #[.slice A 0 c] w fun e w' => e = .returned (.slice none 0 0) ∧ Below w.heap.size w w' := by
  go_enter Try.func7, Try.ntmps7
  go_wp2_with fail
  refine wp_loop_rounds 1 ?_
  rw [rounds_succ]
  go_wp2_with fail
  go_ret
  exact ⟨by first | rfl | simp, Below.refl _ _⟩
set_option maxRecDepth 100000 in
set_option maxHeartbeats 4000000 in
theorem check_none (A : Option Addr) (c : Nat) (w : World) : Calls Try.prog 12 #[.slice A 0 c] w fun e w' => e = .returned (.tuple #[.int .i64 0, .bool false]) ∧ Below w.heap.size w w' := by
  have HWR := Lib.hid (fun W : World => cw_none A c W)
  go_enter Try.func12, Try.ntmps12
  go_upto_region 1 with fail
  refine wp_region_lit ?_
  refine wpList_mk rfl 62 rfl ?_
  refine wpList_mk rfl 63 rfl ?_
  refine wpList_plain rfl (fun KK hKK => ?_)
  go_simp
  refine hKK _ _ ?_
  refine wpList_plain rfl (fun KK hKK => ?_)
  go_simp
  refine hKK _ _ ?_
  refine wpList_plain rfl (fun KK hKK => ?_)
  go_simp
  refine hKK _ _ ?_
  refine wpList_nil ?_
  obtain ⟨V0, hV0⟩ : ∃ V, (((w.alloc (.map #[] 0)).alloc (.map #[] 0)).alloc (.cells #[.slice none 0 0, .map (some w.heap.size), .map (some (w.heap.size + 1))] 66)) = V := ⟨_, rfl⟩
  have hb0 : Below w.heap.size w V0 := by rw [← hV0]; exact (((Below.refl _ _).alloc (Nat.le_refl _) _).alloc (by simp) _).alloc (by simp; omega) _
  have hp0 : Pk (w.heap.size + 1 + 1) w.heap.size (w.heap.size + 1) V0 (.slice none 0 0) (.map #[] 0) (.map #[] 0) := by
    rw [← hV0]
    exact pk_new w _
  rw [hV0]
  clear hV0
  have HB0 := Lib.hid hb0
  clear hb0
  generalize w.heap.size + 1 + 1 = kb at *
  generalize w.heap.size + 1 = r2 at *
  have HP0 := Lib.hid hp0
  clear hp0
  go_wp2_with (go_at_call 7; refine (HWR.out _).mono ?_; rintro e1 V1 ⟨rfl, k1⟩)
  have HP1 := Lib.hid (HP0.out.below k1)
  have HB1 := Lib.hid (HB0.out.trans (k1.mono HB0.out.size))
  clear k1
  refine wp_loop_rounds 1 ?_
  rw [rounds_succ]
  obtain ⟨KA, kc, hk, hs⟩ := sort_keys (V1.heap.size) (.slice none 0 0) [] V1 (World.ownsRow_nil _ _ _ _) (by simp)
  have c0 := HP1.out.c0
  have HS := Lib.hid hs
  clear hs hk
  go_wp2_with (go_at_call 16; refine HS.out.mono ?_; rintro e2 V2 ⟨rfl, k2, _⟩)
  have HB2 : Hid (Below w.heap.size w V2) := Lib.hid (HB1.out.trans (k2.below (fun i hi => by cases hi) HB1.out.size))
  clear k2 c0
  refine wp_loop_rounds 1 ?_
  rw [rounds_succ]
  go_wp2_with fail
  go_ret2
  exact ⟨rfl, HB2.out⟩
theorem heavy_g (A : Option Addr) (c : Nat) (L : List EvA) (w : World) (h : RowG (fun a : EvA => a.e.cs) w A L) (hl : L.length ≤ 9223372036854775807) (hE : ∀ a ∈ L, EvIn w a) :
    Calls Try.prog 6 #[.slice A L.length c] w fun e' w' => (∃ b, e' = .returned (.bool b) ∧ (b = false → L.length ≤ 150 ∧ ∀ a ∈ L, a.e.vl ≤ 8000)) ∧ Below w.heap.size w w' := by
  rcases Nat.eq_zero_or_pos L.length with h0 | h0
  · obtain rfl : L = [] := List.length_eq_zero_iff.1 h0
    exact (heavy_none A c w).mono (fun e w' q => ⟨⟨false, q.1, fun _ => ⟨Nat.zero_le _, fun a ha => by cases ha⟩⟩, q.2⟩)
  · obtain ⟨B, O, rfl, hr⟩ := rowE_of h h0
    exact heavy25 B O c L w hr hl hE
theorem cw_g (A : Option Addr) (c : Nat) (L : List EvA) (w : World) (h : RowG (fun a : EvA => a.e.cs) w A L) (hl : L.length ≤ 1000) (hE : ∀ a ∈ L, EvIn w a) (hvl : ∀ a ∈ L, a.e.vl ≤ 100000) :
    Calls Try.prog 7 #[.slice A L.length c] w fun e' w' => (∃ A' c', e' = .returned (.slice A' (wsL L).length c')) ∧ Below w.heap.size w w' := by
  rcases Nat.eq_zero_or_pos L.length with h0 | h0
  · obtain rfl : L = [] := List.length_eq_zero_iff.1 h0
    exact (cw_none A c w).mono (fun e w' q => ⟨⟨none, 0, q.1⟩, q.2⟩)
  · obtain ⟨B, O, rfl, hr⟩ := rowE_of h h0
    have hw := writes_any B O c (L.map EvA.e) (pvOf L) w hr (by rw [List.length_map]; exact hl) (fun k' e' he' => by
      rw [List.getElem?_map] at he'
      obtain ⟨a, ha, rfl⟩ := Option.map_eq_some_iff.1 he'
      have hi := hE a (List.mem_of_getElem? ha)
      have hp : pvOf L k' = a.p := by unfold pvOf; rw [ha]; rfl
      rw [hp]
      exact ⟨hi.vl, hi.vby, hi.vn, hi.vl ▸ hvl a (List.mem_of_getElem? ha)⟩)
    rw [List.length_map] at hw
    refine hw.mono ?_
    rintro e w' ⟨⟨v, L', rfl, hw1, hmm⟩, k1⟩
    obtain ⟨WA, wc, rfl⟩ := row_shapeQ hw1.row
    refine ⟨⟨WA, wc, ?_⟩, k1⟩
    rw [← wsN_L, ← hmm, List.length_map]
theorem check_g (A : Option Addr) (c : Nat) (L : List EvA) (w : World) (h : RowG (fun a : EvA => a.e.cs) w A L) (hl : L.length ≤ 1000) (hE : ∀ a ∈ L, EvIn w a) (hvl : ∀ a ∈ L, a.e.vl ≤ 100000) :
    Calls Try.prog 12 #[.slice A L.length c] w fun e' w' => e' = .returned (.tuple #[.int .i64 ((chkR (wsL L) (keysOf (wsL L)) ([], 0) 0 L).1 : Int), .bool (chkR (wsL L) (keysOf (wsL L)) ([], 0) 0 L).2]) ∧ Below w.heap.size w w' := by
  rcases Nat.eq_zero_or_pos L.length with h0 | h0
  · obtain rfl : L = [] := List.length_eq_zero_iff.1 h0
    exact check_none A c w
  · obtain ⟨B, O, rfl, hr⟩ := rowE_of h h0
    have := check_any B O c L w hr hl hE hvl
    rw [wsN_L] at this
    exact this
end Go.Proofs.Ytdjhpajmbddffaa

/- The lower bits of a number. -/
namespace Go.Proofs.Ytdjhpajmbddffaa
open Go.RowKit

theorem bits_and_le (x : Int) (k : Nat) (hk : k < 9223372036854775808) : 0 ≤ bits .and .i64 x (k : Int) ∧ bits .and .i64 x (k : Int) ≤ k := by
  have h : bits .and .i64 x (k : Int) = IntKind.i64.wrap ((BitVec.ofInt 64 x &&& BitVec.ofInt 64 (k : Int)).toNat : Int) := rfl
  have e0 : (BitVec.ofInt 64 (k : Int)).toNat = k := by
    rw [BitVec.ofInt_natCast, BitVec.toNat_ofNat]
    exact Nat.mod_eq_of_lt (by omega)
  have e : (BitVec.ofInt 64 x &&& BitVec.ofInt 64 (k : Int)).toNat ≤ k := by
    rw [BitVec.toNat_and]
    exact Nat.le_trans Nat.and_le_right (by omega)
  rw [h, IntWalk.i64_in _ (by omega)]
  omega
end Go.Proofs.Ytdjhpajmbddffaa

/- Stage 25: CausalOthers: the law's walk and the claim. -/
namespace Go.Proofs.Ytdjhpajmbddffaa
open Go.RowKit Go.ChangeShapes Go.WideShapes Go.ChangeAt Go.Joins

theorem one_row (V : World) (a : EvA) : RowG (fun a : EvA => a.e.cs) (V.alloc (.cells a.e.cs.toArray 47)) (some ⟨V.heap.size, 0, none⟩) [a] := fun _ =>
  ⟨V.heap.size, 0, rfl, by simp, fun j u hu => by
    have : List.flatMap (fun a : EvA => a.e.cs) [a] = a.e.cs := by simp
    rw [this] at hu
    exact range_new V a.e.cs _ j u hu⟩
abbrev evCs : EvA → List Value := fun a => a.e.cs
theorem evCs_len (L : List EvA) : (L.flatMap evCs).length = L.length * 18 := by
  induction L with
  | nil => rfl
  | cons a t ih =>
    rw [List.flatMap_cons, List.length_append, ih, List.length_cons, show (evCs a).length = 18 from rfl]
    omega
theorem evCs_one (L : List EvA) : ∀ u ∈ L.flatMap evCs, u.oneCell' = true := by
  intro u hu
  obtain ⟨a, _, h⟩ := List.mem_flatMap.1 hu
  have := Ev.one a.e
  rw [List.all_toArray, List.all_eq_true] at this
  exact this u h
theorem evI_info : (Try.prog.info? 47).map (fun i => (i.zero, i.size, i.bytes)) = some (some (.agg evZ), 18, 208) := by kernel_rfl
set_option maxRecDepth 100000 in
theorem app_ev {o : Oper} {a : Go.Act} {w : World} {K : Go.Act → World → Prop} {Q : Exit → Go.Act → World → Prop} (s x : Operand)
    (ho : o.op = .call { callee := .builtin .append, args := #[s, x], argTypes := #[22, 22] }) (base : Nat) (v : Value) (M : List EvA) (hs : a.eval s = v) (hown : w.ownsRow base 47 18 v M.length (M.flatMap evCs))
    (A : Option Addr) (c : Nat) (N : List EvA) (hx : a.eval x = .slice A N.length c) (hc : A = none → c = 0 ∧ N = []) (hr : RowG evCs w A N) (h63 : M.length + N.length ≤ 1000) (hbase : base ≤ w.heap.size)
    (h : ∀ v' w', w'.ownsRow base 47 18 v' (M ++ N).length ((M ++ N).flatMap evCs) → Below base w w' → But (fun i => v.ownBlock = some i) w w' → K (a.put o.dst v') w') : o.wp Try.prog a w K Q := by
  obtain ⟨i0, hi0, hz0, hz1, hz2⟩ := info_parts evI_info
  cases A with
  | none =>
    obtain ⟨rfl, rfl⟩ := hc rfl
    have hrun := run_append_owned_none (P := Try.prog) (w := w) base 22 o.type 47 i0 18 Try.underlying22 hi0 v M.length _ hown
    unfold Oper.wp
    simp [execOp, ho, resolve, invoke, builtin, hs, hx, hrun, Result.andThen]
    rw [List.append_nil] at h
    exact h v w hown (Below.refl _ _) (But.refl _ _)
  | some ad =>
    refine wp_append_own w s x 22 ho base 47 i0 _ 18 _ Try.underlying22 hi0 hz0 hz1 hz2 rfl (by omega) v M.length _ hs hown ad N.length c (N.flatMap evCs) hx (evCs_len N) (fun j u hu => ?_) (evCs_one N) (by unfold maxLen; omega) (by omega) hbase (fun v' w' h1 h2 _ => h v' w' (by rw [List.length_append, List.flatMap_append]; exact h1) ((Below.refl _ _).grown h2 hbase (fun i hi => own_ge hown hi)) (But.of_grown h2 (fun i hi => hi)))
    · have h0 : 0 < N.length := by
        rcases Nat.eq_zero_or_pos N.length with q | q
        · rw [List.length_eq_zero_iff.1 q] at hu
          cases hu
        · exact q
      obtain ⟨B, O, e, _, hcc⟩ := hr h0
      injection e with e
      subst e
      rw [Addr.add_mid]
      exact hcc j u hu
theorem row_but {S : Nat → Prop} {w w' : World} {g : Nat} {L : List EvA} (k : But S w w') (h : RowG evCs w (some ⟨g, 0, none⟩) L) (hg : ¬ S g) : RowG evCs w' (some ⟨g, 0, none⟩) L := fun h0 => by
  obtain ⟨B, O, e, h2, h3⟩ := h h0
  have e1 : g = B := by injection e with e; injection e
  subst e1
  exact ⟨g, O, e, Nat.lt_of_lt_of_le h2 k.size, fun j u hu => (k.cell g _ h2 hg).trans (h3 j u hu)⟩
theorem row_take (k : Nat) {w : World} {A : Option Addr} {L : List EvA} (h : RowG evCs w A L) : RowG evCs w A (L.take k) := fun h0 => by
  obtain ⟨B, O, e, h2, h3⟩ := h (by rw [List.length_take] at h0; omega)
  refine ⟨B, O, e, h2, fun j u hu => h3 j u ?_⟩
  have hj := (List.getElem?_eq_some_iff.1 hu).1
  rw [← List.take_append_drop k L, List.flatMap_append, List.getElem?_append_left hj]
  exact hu
theorem row_drop (k : Nat) {w : World} {A : Option Addr} {L : List EvA} {c : Nat} (AD : Option Addr) (hA : (if c = k then A else A.map (·.add (k * 18))) = AD) (hk : k ≤ L.length) (hc : L.length ≤ c) (h : RowG evCs w A L) : RowG evCs w AD (L.drop k) := fun h0 => by
  have h1 : k < L.length := by rw [List.length_drop] at h0; omega
  obtain ⟨B, O, rfl, h2, h3⟩ := h (by omega)
  rw [if_neg (by omega)] at hA
  refine ⟨B, O + k * 18, by rw [← hA]; simp [Addr.add], h2, fun j u hu => ?_⟩
  rw [Nat.add_assoc]
  refine h3 (k * 18 + j) u ?_
  have e1 : ((L.take k).flatMap evCs).length = k * 18 := by rw [evCs_len, List.length_take_of_le hk]
  have e2 : L.flatMap evCs = (L.take k).flatMap evCs ++ (L.drop k).flatMap evCs := by rw [← List.flatMap_append, List.take_append_drop]
  rw [e2, ← e1, List.getElem?_append_right (by omega), Nat.add_sub_cancel_left]
  exact hu
theorem drop_none {A : Option Addr} {c k : Nat} {L : List EvA} (hA : (if c = k then A else A.map (·.add (k * 18))) = none) (hc : A = none → c = 0 ∧ L = []) : c - k = 0 ∧ L.drop k = [] := by
  have : A = none := by
    split at hA
    · exact hA
    · simpa using hA
  obtain ⟨rfl, rfl⟩ := hc this
  exact ⟨Nat.zero_sub _, List.drop_nil⟩
theorem own_shape {w : World} {base n : Nat} {v : Value} {xs : List Value} (h : w.ownsRow base 47 18 v n xs) : ∃ A c, v = .slice A n c ∧ n = n := by
  rcases h.2 with ⟨rfl, rfl⟩ | ⟨g, cap, cur, rfl, _⟩
  · exact ⟨none, 0, rfl, rfl⟩
  · exact ⟨_, _, rfl, rfl⟩
theorem own_row {w : World} {base n c : Nat} {A : Option Addr} {L : List EvA} (h : w.ownsRow base 47 18 (.slice A n c) L.length (L.flatMap evCs)) : RowG evCs w A L := fun h0 => by
  obtain ⟨g, cap, e, _, _, hg⟩ := row_shape h h0
  injection e with e1 e2 _
  subst e1 e2
  exact ⟨g, 0, rfl, hg, fun j u hu => by rw [Nat.zero_add]; exact row_cell h hu⟩
theorem chkR_le (ws : List Wm) (keys : List ByteArray) : ∀ (t : List EvA) (S : List Sn × Nat) (i : Nat), (chkR ws keys S i t).1 ≤ i + t.length
  | [], _, _ => Nat.zero_le _
  | a :: t, S, i => by
    rw [List.length_cons]
    by_cases h0 : a.e.er = 0
    · cases hc : couldB ws keys S a
      · rw [chkR_out h0 hc]
        exact Nat.le_add_right _ _
      · rw [chkR_on h0 hc]
        have := chkR_le ws keys t (snapS S a) (i + 1)
        omega
    · rw [chkR_skip h0]
      have := chkR_le ws keys t S (i + 1)
      omega
set_option maxRecDepth 100000 in
theorem sl_head (A : Option Addr) (n c k : Nat) (h : k ≤ c) (w : World) : (Instr.slice 22 (.slice A n c) none (some (.int .i64 (k : Int))) none).run Try.prog w = .ok (.slice A k c) w := by
  rw [run_slice_h w 22 A n c Try.underlying22 .i64 (k : Int) (by omega) (by omega)]
  have e1 : (sizeOf (Try.prog.elem 22)).run Try.prog w = .ok 18 w := by kernel_rfl
  rw [e1]
  simp only [Result.andThen_ok, sliced, Int.toNat_natCast, Nat.sub_zero]
  cases A with
  | none => simp
  | some ad => simp [Addr.add]
set_option maxRecDepth 100000 in
theorem sl_tail (A : Option Addr) (n c k : Nat) (h : k ≤ n) (w : World) : (Instr.slice 22 (.slice A n c) (some (.int .i64 (k : Int))) none none).run Try.prog w = .ok (.slice (if c = k then A else A.map (·.add (k * 18))) (n - k) (c - k)) w := by
  rw [run_slice_l w 22 A n c Try.underlying22 .i64 (k : Int) (by omega) (by omega)]
  have e1 : (sizeOf (Try.prog.elem 22)).run Try.prog w = .ok 18 w := by kernel_rfl
  rw [e1]
  simp only [Result.andThen_ok, sliced, Int.toNat_natCast]
set_option maxRecDepth 100000 in
set_option maxHeartbeats 8000000 in
theorem law_others (A : Option Addr) (c : Nat) (L : List EvA) (at_ : Int) (kd nd nn mm by8 sm sc : Int) (key hi : ByteArray) (VA : Option Addr) (p : List Int) (vc : Nat) (e : Int) (w : World) (hR : RowG (fun a : EvA => a.e.cs) w A L) (hc : A = none → c = 0 ∧ L = []) (hlc : L.length ≤ c) (hl : L.length ≤ maxLen) (hE : ∀ a ∈ L, EvIn w a) (hv : ByL w VA p) (his : isBy p) (hvn : VA = none → p.length = 0) (hvm : p.length ≤ maxLen) :
    Calls Try.prog 4 #[.slice A L.length c, .int .i64 at_, .agg #[.int .i64 kd, .int .i64 nd, .int .i64 nn, .int .i64 mm, .int .u8 by8, .int .i64 sm, .int .i64 sc, .string key, .string hi, .slice VA p.length vc], .int .i64 e] w fun e w' => e = .returned (.bool true) ∧ Below w.heap.size w w' := by
  have HR := Lib.hid hR
  have HEE := Lib.hid hE
  have HC := Lib.hid hc
  have HV := Lib.hid (And.intro hv (And.intro his (And.intro hvn hvm)))
  have HL : Hid (L.length ≤ 9223372036854775807) := Lib.hid (by unfold maxLen at hl; omega)
  have HLC := Lib.hid hlc
  clear hR hE hc hv his hvn hvm hl hlc
  go_enter Try.func4, Try.ntmps4
  go_upto_region 1 with fail
  obtain ⟨V0, hV0⟩ : ∃ V, w.alloc (.cells #[.int .i64 kd, .int .i64 nd, .int .i64 nn, .int .i64 mm, .int .u8 by8, .int .i64 sm, .int .i64 sc, .string key, .string hi, .slice VA p.length vc] 41) = V := ⟨_, rfl⟩
  have rb : V0.rangeAt w.heap.size 0 [.int .i64 kd, .int .i64 nd, .int .i64 nn, .int .i64 mm, .int .u8 by8, .int .i64 sm, .int .i64 sc, .string key, .string hi, .slice VA p.length vc] := by rw [← hV0]; exact range_new _ _ _
  have hb0 : Below w.heap.size w V0 := by rw [← hV0]; exact (Below.refl _ _).alloc (Nat.le_refl _) _
  have lb : w.heap.size < V0.heap.size := by rw [← hV0]; simp
  have hbe : Hid (w.heap.size = w.heap.size) := Lib.hid rfl
  rw [hV0]
  clear hV0
  generalize hbx : w.heap.size = bx at rb lb hbe ⊢
  have HBX := Lib.hid hbx
  have HB0 := Lib.hid hb0
  clear hb0 hbx hbe
  refine wp_region_lit ?_
  refine wpList_plain rfl (fun KK hKK => ?_)
  go_simp
  refine hKK _ _ ?_
  refine wpList_plain rfl (fun KK hKK => ?_)
  go_simp
  (go_at_call 6; refine (heavy_g A c L V0 (HR.out.below HB0.out) HL.out (fun a ha => (HEE.out a ha).below HB0.out)).mono ?_; rintro e1 V1 ⟨⟨b, rfl, hb⟩, k1⟩)
  have HB1 := Lib.hid (HB0.out.trans (k1.mono HB0.out.size))
  replace rb := range_below rb k1 lb
  replace lb := Nat.lt_of_lt_of_le lb k1.size
  clear k1
  refine hKK _ _ ?_
  refine wpList_plain rfl (fun KK hKK => ?_)
  go_simp
  refine hKK _ _ ?_
  cases b
  · refine wpList_step (fun KK hKK => ?_)
    rw [if_pos (by rfl)]
    refine wp_load_mid 41 (.tmp 6) rfl bx 0 rfl [.int .i64 kd, .int .i64 nd, .int .i64 nn, .int .i64 mm, .int .u8 by8, .int .i64 sm, .int .i64 sc, .string key, .string hi, .slice VA p.length vc] _ rb Try.underlying41 rfl (by rw [st_info]; rfl) ?_
    refine hKK _ _ ?_
    refine wpList_step (fun KK hKK => ?_)
    rw [if_pos (by rfl)]
    go_simp
    refine hKK _ _ ?_
    refine wpList_step (fun KK hKK => ?_)
    rw [if_pos (by rfl)]
    go_simp
    obtain ⟨h150, hvl⟩ := hb rfl
    have HB2 : Hid (Below w.heap.size w (V1.alloc (.cells (mkEv kd nd nn mm by8 sm sc key hi VA p vc 0).e.cs.toArray 47))) := Lib.hid (HB1.out.trans ((Below.refl _ _).alloc HB1.out.size _))
    have HV2 := Lib.hid (one_row V1 (mkEv kd nd nn mm by8 sm sc key hi VA p vc 0))
    have rb2 := range_below rb ((Below.refl _ _).alloc (Nat.le_refl _) (.cells (mkEv kd nd nn mm by8 sm sc key hi VA p vc 0).e.cs.toArray 47)) lb
    have lb2 : bx < (V1.alloc (.cells (mkEv kd nd nn mm by8 sm sc key hi VA p vc 0).e.cs.toArray 47)).heap.size := Nat.lt_of_lt_of_le lb (by simp)
    have HVL := Lib.hid hvl
    have H150 := Lib.hid h150
    clear hb hvl h150 rb lb
    refine hKK _ _ ?_
    obtain ⟨V2, hV2⟩ : ∃ V, V1.alloc (.cells (mkEv kd nd nn mm by8 sm sc key hi VA p vc 0).e.cs.toArray 47) = V := ⟨_, rfl⟩
    rw [hV2] at HB2 HV2 rb2 lb2
    refine wpList_step (fun KK hKK => ?_)
    rw [if_pos (by rfl)]
    go_simp
    rw [show V1.alloc (.cells #[.int .i64 0, .int .i64 kd, .int .i64 nd, .int .i64 nn, .int .i64 mm, .int .u8 by8, .int .i64 sm, .int .i64 sc, .string key, .string hi, .slice VA p.length vc, .int .i64 0, .int .i64 0, .int .i64 0, .int .i64 0, .bool false, .slice none 0 0, .slice none 0 0] 47) = V2 from hV2]
    clear hV2
    (go_at_call 6; refine (heavy_g (some ⟨V1.heap.size, 0, none⟩) 1 [mkEv kd nd nn mm by8 sm sc key hi VA p vc 0] V2 HV2.out (by simp) (fun a ha => by rw [List.mem_singleton.1 ha]; exact mkEv_in (HV.out.1.below HB2.out) HV.out.2.1 HV.out.2.2.1 HV.out.2.2.2)).mono ?_; rintro e2 V3 ⟨⟨b, rfl, hb⟩, k1⟩)
    have HB3 := Lib.hid (HB2.out.trans (k1.mono HB2.out.size))
    have rb := range_below rb2 k1 lb2
    have lb := Nat.lt_of_lt_of_le lb2 k1.size
    clear k1 rb2 lb2 HV2
    refine hKK _ _ ?_
    refine wpList_plain rfl (fun KK hKK => ?_)
    go_simp
    refine hKK _ _ ?_
    refine wpList_nil ?_
    generalize V1.heap.size = vv at *
    cases b
    · have HVP : Hid (p.length ≤ 8000) := Lib.hid ((hb rfl).2 _ (List.mem_singleton.2 rfl))
      clear hb
      have c0 : V3.cell? ⟨bx, 0, none⟩ = some (.int .i64 kd) := rb 0 _ rfl
      go_upto_region 3 with fail
      go_cut [38] (fun q wx => q = .bool (decide ((1 ≤ kd ∧ kd ≤ 5) ∧ (e = 0 ∨ e = 9))) ∧ V3 = wx)
      case first =>
        by_cases k1 : 1 ≤ kd
        · have s1 : decide (1 ≤ kd) = true := by simpa using k1
          by_cases k2 : kd ≤ 5
          · have s2 : decide (kd ≤ 5) = true := by simpa using k2
            by_cases k3 : e = 0
            · have s3 : (e == 0) = true := by simpa using k3
              go_wp2_with fail
              go_meet
              simp [k1, k2, k3]
            · have s3 : (e == 0) = false := by simpa using k3
              by_cases k4 : e = 9
              · have s4 : (e == 9) = true := by simpa using k4
                go_wp2_with fail
                go_meet
                simp [k1, k2, k4]
              · have s4 : (e == 9) = false := by simpa using k4
                go_wp2_with fail
                go_meet
                simp [k3, k4]
                (try exact fun _ _ => ⟨k3, k4⟩)
          · have s2 : decide (kd ≤ 5) = false := by simpa using k2
            go_wp2_with fail
            go_meet
            simp [k2]
            (try (intros; omega))
        · have s1 : decide (1 ≤ kd) = false := by simpa using k1
          go_wp2_with fail
          go_meet
          simp [k1]
          (try (intros; omega))
      case rest =>
        obtain ⟨rfl, rfl⟩ := hcut
        clear c0
        by_cases hN : (1 ≤ kd ∧ kd ≤ 5) ∧ (e = 0 ∨ e = 9)
        · have tq : decide ((1 ≤ kd ∧ kd ≤ 5) ∧ (e = 0 ∨ e = 9)) = true := decide_eq_true hN
          go_wp2_with fail
          refine (known25 _).mono ?_; rintro e3 V4 ⟨rfl, k4⟩
          have HB4 := Lib.hid (HB3.out.trans (k4.mono HB3.out.size))
          clear k4
          go_wp2_with fail
          go_ret
          exact ⟨rfl, HB4.out⟩
        · have tq : decide ((1 ≤ kd ∧ kd ≤ 5) ∧ (e = 0 ∨ e = 9)) = false := decide_eq_false hN
          have HNN := Lib.hid hN
          clear hN
          have b1 := bits_and_le at_ 65535 (by omega)
          have wl : IntKind.i64.wrap ((L.length : Int) + 1) = (L.length : Int) + 1 := by have := H150.out; exact IntWalk.i64_in _ (by omega)
          obtain ⟨k, hk⟩ : ∃ k : Nat, (bits BinOp.and IntKind.i64 at_ 65535).tmod ((L.length : Int) + 1) = (k : Int) := ⟨_, (Int.toNat_of_nonneg (Int.tmod_nonneg _ b1.1)).symm⟩
          have HKL : Hid (k ≤ L.length) := Lib.hid (by have := Int.tmod_lt_of_pos (bits BinOp.and IntKind.i64 at_ 65535) (show 0 < (L.length : Int) + 1 by omega); omega)
          go_upto_region 6 with fail
          clear hk wl b1 tq
          go_cut [10] (fun q wx => ∃ A2 c2, q = .slice A2 ((L.take k ++ [(mkEv kd nd nn mm by8 sm sc key hi VA p vc e)]).length) c2 ∧ wx.ownsRow V3.heap.size 47 18 (.slice A2 ((L.take k ++ [(mkEv kd nd nn mm by8 sm sc key hi VA p vc e)]).length) c2) ((L.take k ++ [(mkEv kd nd nn mm by8 sm sc key hi VA p vc e)]).length) ((L.take k ++ [(mkEv kd nd nn mm by8 sm sc key hi VA p vc e)]).flatMap evCs) ∧ Below V3.heap.size V3 wx)
          case first =>
            have HLK : Hid ((L.take k).length = k) := Lib.hid (List.length_take_of_le HKL.out)
            have HRL : Hid (RowG evCs V3 A L) := Lib.hid (HR.out.below HB3.out)
            have HRB := Lib.hid rb
            have HLB := Lib.hid lb
            clear rb lb
            have HS1 := sl_head A L.length c k (Nat.le_trans HKL.out HLC.out)
            refine wp_region_held_drew (S := fun w' => w'.rangeAt bx 0 [.int .i64 kd, .int .i64 nd, .int .i64 nn, .int .i64 mm, .int .u8 by8, .int .i64 sm, .int .i64 sc, .string key, .string hi, .slice VA p.length vc]) (by kernel_rfl) ?_ (fun hHeld => ?_)
            · exact HRB.out
            have HQ4 : Hid (Below V3.heap.size V3 V3.drew) := Lib.hid (Below.refl _ _).drew
            obtain ⟨V4, hV4⟩ : ∃ V, V3.drew = V := ⟨_, rfl⟩
            rw [hV4] at HQ4 hHeld ⊢
            clear hV4
            refine tk9 1 ?_
            refine tk9 2 ?_
            refine tk9 3 ?_
            refine tk9 5 (hy := yieldsIf_load_mid (by rfl) 41 (.tmp 6) rfl bx 0 rfl [.int .i64 kd, .int .i64 nd, .int .i64 nn, .int .i64 mm, .int .u8 by8, .int .i64 sm, .int .i64 sc, .string key, .string hi, .slice VA p.length vc] _ (fun w' hw => hw) Try.underlying41 rfl (by rw [st_info]; rfl)) ?_
            refine tk9 6 ?_
            refine tk9 7 ?_
            refine tk9 8 ?_
            clear HS1
            refine wpAnyH_ready (rs := [0, 9]) (by kernel_rfl) (by simp) ?_
            refine AllReadyH.cons rfl (fun K hK => ?_) (AllReadyH.cons rfl (fun K hK => ?_) (AllReadyH.nil))
            · go_simp
              obtain ⟨V5, hV⟩ : ∃ V, V4.alloc (.cells #[] 47) = V := ⟨_, rfl⟩
              have hmade := World.ownsRow_made (base := V3.heap.size) (e := 47) (size := 18) V4 #[] 0 HQ4.out.size (Nat.zero_le _) rfl
              have kk : Below V4.heap.size V4 V5 := by rw [← hV]; exact (Below.refl _ _).alloc (Nat.le_refl _) _
              have HGL := Lib.hid (show V4.heap.size < V5.heap.size by rw [← hV]; simp)
              rw [hV] at hmade ⊢
              clear hV
              have HO5 := Lib.hid hmade
              clear hmade
              have HQ5 := Lib.hid (HQ4.out.trans (kk.mono HQ4.out.size))
              clear kk
              generalize V4.heap.size = g0 at HO5 HGL ⊢
              refine hK.out _ _ ?_ (fun hHeld => ?_)
              · exact range_below HRB.out HQ5.out HLB.out
              clear hK K
              (try simp only [Act.put, List.setIfInBounds_toArray, List.set_cons_zero, List.set_cons_succ, List.getElem_toArray, List.getElem_cons_succ, List.getElem_cons_zero])
              refine wpAnyH_ready (rs := [4, 9]) (by kernel_rfl) (by simp) ?_
              refine AllReadyH.cons rfl (fun K hK => ?_) (AllReadyH.cons rfl (fun K hK => ?_) (AllReadyH.nil))
              · refine app_ev (.tmp 46) (.tmp 49) rfl V3.heap.size (.slice (some ⟨g0, 0, none⟩) 0 0) [] rfl HO5.out A c (L.take k) (by rw [HLK.out]; rfl) (fun q => ⟨(HC.out q).1, by rw [(HC.out q).2, List.take_nil]⟩) (row_take k (HRL.out.below HQ5.out)) (by rw [HLK.out]; have := HKL.out; have := H150.out; show 0 + k ≤ 1000; omega) HQ5.out.size ?_
                intro v1 V6 ho k4 k5
                have HP6 := Lib.hid ho
                clear ho
                have HQ6 := Lib.hid (HQ5.out.trans k4)
                clear k4 k5
                refine hK.out _ _ ?_ (fun hHeld => ?_)
                · exact range_below HRB.out HQ6.out HLB.out
                clear hK K
                (try simp only [Act.put, List.setIfInBounds_toArray, List.set_cons_zero, List.set_cons_succ, List.getElem_toArray, List.getElem_cons_succ, List.getElem_cons_zero])
                refine wpAnyH_ready (rs := [9]) (by kernel_rfl) (by simp) ?_
                refine AllReadyH.cons rfl (fun K hK => ?_) (AllReadyH.nil)
                go_simp
                obtain ⟨V7, hV⟩ : ∃ V, V6.alloc (.cells (mkEv kd nd nn mm by8 sm sc key hi VA p vc e).e.cs.toArray 47) = V := ⟨_, rfl⟩
                have hone := one_row V6 (mkEv kd nd nn mm by8 sm sc key hi VA p vc e)
                have kk : Below V6.heap.size V6 V7 := by rw [← hV]; exact (Below.refl _ _).alloc (Nat.le_refl _) _
                rw [hV] at hone
                rw [show V6.alloc (.cells #[.int .i64 0, .int .i64 kd, .int .i64 nd, .int .i64 nn, .int .i64 mm, .int .u8 by8, .int .i64 sm, .int .i64 sc, .string key, .string hi, .slice VA p.length vc, .int .i64 e, .int .i64 0, .int .i64 0, .int .i64 0, .bool false, .slice none 0 0, .slice none 0 0] 47) = V7 from hV]
                clear hV
                have HR7 := Lib.hid hone
                clear hone
                have HQ7 := Lib.hid (HQ6.out.trans (kk.mono HQ6.out.size))
                have HP7 := Lib.hid ((But.of_below (S := fun _ => False) kk).row HP6.out (fun _ _ h => h))
                clear kk
                generalize V6.heap.size = g9 at HR7  ⊢
                refine hK.out _ _ ?_ (fun hHeld => ?_)
                · exact range_below HRB.out HQ7.out HLB.out
                clear hK K
                (try simp only [Act.put, List.setIfInBounds_toArray, List.set_cons_zero, List.set_cons_succ, List.getElem_toArray, List.getElem_cons_succ, List.getElem_cons_zero])
                refine wpAnyH_ready (rs := [10]) (by kernel_rfl) (by simp) ?_
                refine AllReadyH.cons rfl (fun K hK => ?_) (AllReadyH.nil)
                refine app_ev (.tmp 50) (.tmp 55) rfl V3.heap.size _ (L.take k) rfl HP7.out (some ⟨g9, 0, none⟩) 1 [(mkEv kd nd nn mm by8 sm sc key hi VA p vc e)] rfl (fun q => by cases q) HR7.out (by rw [HLK.out]; have := HKL.out; have := H150.out; show k + 1 ≤ 1000; omega) HQ7.out.size ?_
                intro v2 V8 ho k4 _
                have HQ8 := Lib.hid (HQ7.out.trans k4)
                have HO2 := Lib.hid ho
                clear ho k4
                refine hK.out _ _ ?_ (fun hHeld => ?_)
                · exact range_below HRB.out HQ8.out HLB.out
                clear hK K
                (try simp only [Act.put, List.setIfInBounds_toArray, List.set_cons_zero, List.set_cons_succ, List.getElem_toArray, List.getElem_cons_succ, List.getElem_cons_zero])
                refine tk9 11 ?_
                refine wpAnyH_done (by kernel_rfl) ?_ _
                clear hHeld
                go_wp2_with fail
                go_meet
                obtain ⟨A2, c2, q1, q2⟩ := own_shape HO2.out
                exact ⟨A2, c2, q1, by rw [← q1]; exact HO2.out, HQ8.out⟩
              · go_simp
                obtain ⟨V6, hV⟩ : ∃ V, V5.alloc (.cells (mkEv kd nd nn mm by8 sm sc key hi VA p vc e).e.cs.toArray 47) = V := ⟨_, rfl⟩
                have hone := one_row V5 (mkEv kd nd nn mm by8 sm sc key hi VA p vc e)
                have kk : Below V5.heap.size V5 V6 := by rw [← hV]; exact (Below.refl _ _).alloc (Nat.le_refl _) _
                have HNE : Hid (g0 ≠ V5.heap.size) := Lib.hid (by have := HGL.out; omega)
                rw [hV] at hone
                rw [show V5.alloc (.cells #[.int .i64 0, .int .i64 kd, .int .i64 nd, .int .i64 nn, .int .i64 mm, .int .u8 by8, .int .i64 sm, .int .i64 sc, .string key, .string hi, .slice VA p.length vc, .int .i64 e, .int .i64 0, .int .i64 0, .int .i64 0, .bool false, .slice none 0 0, .slice none 0 0] 47) = V6 from hV]
                clear hV
                have HR6 := Lib.hid hone
                clear hone
                have HQ6 := Lib.hid (HQ5.out.trans (kk.mono HQ5.out.size))
                have HO6 := Lib.hid ((But.of_below (S := fun _ => False) kk).row HO5.out (fun _ _ h => h))
                clear kk
                generalize V5.heap.size = g9 at HR6 HNE ⊢
                refine hK.out _ _ ?_ (fun hHeld => ?_)
                · exact range_below HRB.out HQ6.out HLB.out
                clear hK K
                (try simp only [Act.put, List.setIfInBounds_toArray, List.set_cons_zero, List.set_cons_succ, List.getElem_toArray, List.getElem_cons_succ, List.getElem_cons_zero])
                refine wpAnyH_ready (rs := [4]) (by kernel_rfl) (by simp) ?_
                refine AllReadyH.cons rfl (fun K hK => ?_) (AllReadyH.nil)
                refine app_ev (.tmp 46) (.tmp 49) rfl V3.heap.size (.slice (some ⟨g0, 0, none⟩) 0 0) [] rfl HO6.out A c (L.take k) (by rw [HLK.out]; rfl) (fun q => ⟨(HC.out q).1, by rw [(HC.out q).2, List.take_nil]⟩) (row_take k (HRL.out.below HQ6.out)) (by rw [HLK.out]; have := HKL.out; have := H150.out; show 0 + k ≤ 1000; omega) HQ6.out.size ?_
                intro v1 V7 ho k4 k5
                have HP7 := Lib.hid ho
                clear ho
                have HQ7 := Lib.hid (HQ6.out.trans k4)
                have HR7 := Lib.hid (row_but k5 HR6.out (fun q => HNE.out (by simpa [Value.ownBlock] using q)))
                clear k4 k5
                refine hK.out _ _ ?_ (fun hHeld => ?_)
                · exact range_below HRB.out HQ7.out HLB.out
                clear hK K
                (try simp only [Act.put, List.setIfInBounds_toArray, List.set_cons_zero, List.set_cons_succ, List.getElem_toArray, List.getElem_cons_succ, List.getElem_cons_zero])
                refine wpAnyH_ready (rs := [10]) (by kernel_rfl) (by simp) ?_
                refine AllReadyH.cons rfl (fun K hK => ?_) (AllReadyH.nil)
                refine app_ev (.tmp 50) (.tmp 55) rfl V3.heap.size _ (L.take k) rfl HP7.out (some ⟨g9, 0, none⟩) 1 [(mkEv kd nd nn mm by8 sm sc key hi VA p vc e)] rfl (fun q => by cases q) HR7.out (by rw [HLK.out]; have := HKL.out; have := H150.out; show k + 1 ≤ 1000; omega) HQ7.out.size ?_
                intro v2 V8 ho k4 _
                have HQ8 := Lib.hid (HQ7.out.trans k4)
                have HO2 := Lib.hid ho
                clear ho k4
                refine hK.out _ _ ?_ (fun hHeld => ?_)
                · exact range_below HRB.out HQ8.out HLB.out
                clear hK K
                (try simp only [Act.put, List.setIfInBounds_toArray, List.set_cons_zero, List.set_cons_succ, List.getElem_toArray, List.getElem_cons_succ, List.getElem_cons_zero])
                refine tk9 11 ?_
                refine wpAnyH_done (by kernel_rfl) ?_ _
                clear hHeld
                go_wp2_with fail
                go_meet
                obtain ⟨A2, c2, q1, q2⟩ := own_shape HO2.out
                exact ⟨A2, c2, q1, by rw [← q1]; exact HO2.out, HQ8.out⟩
            · go_simp
              obtain ⟨V5, hV⟩ : ∃ V, V4.alloc (.cells (mkEv kd nd nn mm by8 sm sc key hi VA p vc e).e.cs.toArray 47) = V := ⟨_, rfl⟩
              have hone := one_row V4 (mkEv kd nd nn mm by8 sm sc key hi VA p vc e)
              have kk : Below V4.heap.size V4 V5 := by rw [← hV]; exact (Below.refl _ _).alloc (Nat.le_refl _) _
              have HGL := Lib.hid (show V4.heap.size < V5.heap.size by rw [← hV]; simp)
              rw [hV] at hone
              rw [show V4.alloc (.cells #[.int .i64 0, .int .i64 kd, .int .i64 nd, .int .i64 nn, .int .i64 mm, .int .u8 by8, .int .i64 sm, .int .i64 sc, .string key, .string hi, .slice VA p.length vc, .int .i64 e, .int .i64 0, .int .i64 0, .int .i64 0, .bool false, .slice none 0 0, .slice none 0 0] 47) = V5 from hV]
              clear hV
              have HR5 := Lib.hid hone
              clear hone
              have HQ5 := Lib.hid (HQ4.out.trans (kk.mono HQ4.out.size))
              clear kk
              generalize V4.heap.size = g9 at HR5 HGL ⊢
              refine hK.out _ _ ?_ (fun hHeld => ?_)
              · exact range_below HRB.out HQ5.out HLB.out
              clear hK K
              (try simp only [Act.put, List.setIfInBounds_toArray, List.set_cons_zero, List.set_cons_succ, List.getElem_toArray, List.getElem_cons_succ, List.getElem_cons_zero])
              refine wpAnyH_ready (rs := [0]) (by kernel_rfl) (by simp) ?_
              refine AllReadyH.cons rfl (fun K hK => ?_) (AllReadyH.nil)
              go_simp
              obtain ⟨V6, hV⟩ : ∃ V, V5.alloc (.cells #[] 47) = V := ⟨_, rfl⟩
              have hmade := World.ownsRow_made (base := V3.heap.size) (e := 47) (size := 18) V5 #[] 0 HQ5.out.size (Nat.zero_le _) rfl
              have kk : Below V5.heap.size V5 V6 := by rw [← hV]; exact (Below.refl _ _).alloc (Nat.le_refl _) _
              have HNE : Hid (V5.heap.size ≠ g9) := Lib.hid (by have := HGL.out; omega)
              rw [hV] at hmade ⊢
              clear hV
              have HO6 := Lib.hid hmade
              clear hmade
              have HQ6 := Lib.hid (HQ5.out.trans (kk.mono HQ5.out.size))
              have HR6 := Lib.hid (HR5.out.below kk)
              clear kk
              generalize V5.heap.size = g0 at HO6 HNE ⊢
              refine hK.out _ _ ?_ (fun hHeld => ?_)
              · exact range_below HRB.out HQ6.out HLB.out
              clear hK K
              (try simp only [Act.put, List.setIfInBounds_toArray, List.set_cons_zero, List.set_cons_succ, List.getElem_toArray, List.getElem_cons_succ, List.getElem_cons_zero])
              refine wpAnyH_ready (rs := [4]) (by kernel_rfl) (by simp) ?_
              refine AllReadyH.cons rfl (fun K hK => ?_) (AllReadyH.nil)
              refine app_ev (.tmp 46) (.tmp 49) rfl V3.heap.size (.slice (some ⟨g0, 0, none⟩) 0 0) [] rfl HO6.out A c (L.take k) (by rw [HLK.out]; rfl) (fun q => ⟨(HC.out q).1, by rw [(HC.out q).2, List.take_nil]⟩) (row_take k (HRL.out.below HQ6.out)) (by rw [HLK.out]; have := HKL.out; have := H150.out; show 0 + k ≤ 1000; omega) HQ6.out.size ?_
              intro v1 V7 ho k4 k5
              have HP7 := Lib.hid ho
              clear ho
              have HQ7 := Lib.hid (HQ6.out.trans k4)
              have HR7 := Lib.hid (row_but k5 HR6.out (fun q => HNE.out (by simpa [Value.ownBlock] using q)))
              clear k4 k5
              refine hK.out _ _ ?_ (fun hHeld => ?_)
              · exact range_below HRB.out HQ7.out HLB.out
              clear hK K
              (try simp only [Act.put, List.setIfInBounds_toArray, List.set_cons_zero, List.set_cons_succ, List.getElem_toArray, List.getElem_cons_succ, List.getElem_cons_zero])
              refine wpAnyH_ready (rs := [10]) (by kernel_rfl) (by simp) ?_
              refine AllReadyH.cons rfl (fun K hK => ?_) (AllReadyH.nil)
              refine app_ev (.tmp 50) (.tmp 55) rfl V3.heap.size _ (L.take k) rfl HP7.out (some ⟨g9, 0, none⟩) 1 [(mkEv kd nd nn mm by8 sm sc key hi VA p vc e)] rfl (fun q => by cases q) HR7.out (by rw [HLK.out]; have := HKL.out; have := H150.out; show k + 1 ≤ 1000; omega) HQ7.out.size ?_
              intro v2 V8 ho k4 _
              have HQ8 := Lib.hid (HQ7.out.trans k4)
              have HO2 := Lib.hid ho
              clear ho k4
              refine hK.out _ _ ?_ (fun hHeld => ?_)
              · exact range_below HRB.out HQ8.out HLB.out
              clear hK K
              (try simp only [Act.put, List.setIfInBounds_toArray, List.set_cons_zero, List.set_cons_succ, List.getElem_toArray, List.getElem_cons_succ, List.getElem_cons_zero])
              refine tk9 11 ?_
              refine wpAnyH_done (by kernel_rfl) ?_ _
              clear hHeld
              go_wp2_with fail
              go_meet
              obtain ⟨A2, c2, q1, q2⟩ := own_shape HO2.out
              exact ⟨A2, c2, q1, by rw [← q1]; exact HO2.out, HQ8.out⟩
          case rest =>
            obtain ⟨A2, c2, rfl, ho, kq⟩ := hcut
            generalize wc = V8 at *
            have HO8 := Lib.hid ho
            have HQ8 := Lib.hid kq
            clear ho kq rb lb
            have HRL : Hid (RowG evCs V3 A L) := Lib.hid (HR.out.below HB3.out)
            have HLK : Hid ((L.take k).length = k) := Lib.hid (List.length_take_of_le HKL.out)
            have HS2 := sl_tail A L.length c k HKL.out
            obtain ⟨AD, hAD⟩ : ∃ AD, (if c = k then A else A.map (·.add (k * 18))) = AD := ⟨_, rfl⟩
            rw [hAD] at HS2
            have HRD := Lib.hid (row_drop k AD hAD HKL.out HLC.out (HRL.out.below HQ8.out))
            have HDN : Hid (AD = none → c - k = 0 ∧ L.drop k = []) := Lib.hid (fun q => drop_none (by rw [hAD]; exact q) HC.out)
            clear hAD
            obtain ⟨N2, hN2⟩ : ∃ n, (L.take k ++ [(mkEv kd nd nn mm by8 sm sc key hi VA p vc e)]).length = n := ⟨_, rfl⟩
            rw [hN2] at HO8 ⊢
            have HN2 := Lib.hid hN2
            clear hN2
            go_upto_region 7 with fail
            refine wp_region_lit ?_
            refine wpList_plain rfl (fun KK hKK => ?_)
            go_simp
            refine hKK _ _ ?_
            refine wpList_plain rfl (fun KK hKK => ?_)
            go_simp
            refine hKK _ _ ?_
            refine wpList_plain rfl (fun KK hKK => ?_)
            go_simp
            refine hKK _ _ ?_
            refine wpList_plain rfl (fun KK hKK => ?_)
            go_simp
            (try rw [HS2 _])
            (try go_simp)
            refine hKK _ _ ?_
            clear HS2
            refine wpList_plain rfl (fun KK hKK => ?_)
            refine app_ev (.tmp 57) (.tmp 60) rfl V3.heap.size (.slice A2 N2 c2) (L.take k ++ [(mkEv kd nd nn mm by8 sm sc key hi VA p vc e)]) rfl (by rw [HN2.out]; exact HO8.out) AD (c - k) (L.drop k) (by rw [List.length_drop]; rfl) HDN.out HRD.out (by rw [List.length_append, List.length_drop, HLK.out]; have := HKL.out; have := H150.out; simp; omega) HQ8.out.size ?_
            intro v3 V9 ho k4 _
            have HQ9 := Lib.hid (HQ8.out.trans k4)
            obtain ⟨A3, c3, rfl, _⟩ := own_shape ho
            rw [show L.take k ++ [(mkEv kd nd nn mm by8 sm sc key hi VA p vc e)] ++ L.drop k = (L.take k ++ (mkEv kd nd nn mm by8 sm sc key hi VA p vc e) :: L.drop k) from by simp] at ho ⊢
            obtain ⟨ML, hML⟩ : ∃ l, (L.take k ++ (mkEv kd nd nn mm by8 sm sc key hi VA p vc e) :: L.drop k) = l := ⟨_, rfl⟩
            rw [hML] at ho ⊢
            have HMD := Lib.hid hML
            clear hML
            have HRM := Lib.hid (own_row ho)
            clear ho k4
            have HML : Hid (ML.length ≤ 1000) := Lib.hid (by rw [← HMD.out, List.length_append, List.length_cons, List.length_drop, HLK.out]; have := HKL.out; have := H150.out; omega)
            have HNE : Hid (Neu (mkEv kd nd nn mm by8 sm sc key hi VA p vc e)) := Lib.hid (fun q => HNN.out q)
            have HWM : Hid (wsL ML = wsL L) := Lib.hid (by rw [← HMD.out, wsL_ins HNE.out, List.take_append_drop])
            have HCK := Lib.hid (chkR_ins HNE.out (wsL L) (keysOf (wsL L)) (L.drop k) (L.take k) ([], 0) 0)
            rw [HMD.out, List.take_append_drop, HLK.out, Nat.zero_add] at HCK
            have HIN : Hid (∀ W, Below w.heap.size w W → (∀ a ∈ L, EvIn W a) ∧ (∀ a ∈ ML, EvIn W a)) := Lib.hid (fun W kW => ⟨fun a ha => (HEE.out a ha).below kW, fun a ha => by
              rw [← HMD.out] at ha
              rcases List.mem_append.1 ha with q | q
              · exact (HEE.out a (List.mem_of_mem_take q)).below kW
              · rcases List.mem_cons.1 q with q | q
                · rw [q]; exact mkEv_in (HV.out.1.below kW) HV.out.2.1 HV.out.2.2.1 HV.out.2.2.2
                · exact (HEE.out a (List.mem_of_mem_drop q)).below kW⟩)
            have HVA : Hid ((∀ a ∈ L, a.e.vl ≤ 100000) ∧ (∀ a ∈ ML, a.e.vl ≤ 100000)) := Lib.hid ⟨fun a ha => by have := HVL.out a ha; omega, fun a ha => by
              rw [← HMD.out] at ha
              rcases List.mem_append.1 ha with q | q
              · have := HVL.out a (List.mem_of_mem_take q); omega
              · rcases List.mem_cons.1 q with q | q
                · rw [q]; have := HVP.out; show p.length ≤ 100000; omega
                · have := HVL.out a (List.mem_of_mem_drop q); omega⟩
            have HB9 : Hid (Below w.heap.size w V9) := Lib.hid (HB3.out.trans (HQ9.out.mono HB3.out.size))
            refine hKK _ _ ?_
            refine wpList_plain rfl (fun KK hKK => ?_)
            go_simp
            refine hKK _ _ ?_
            refine wpList_nil ?_
            go_wp2_with fail
            refine (check_g A c L V9 (HRL.out.below HQ9.out) (by have := H150.out; omega) (HIN.out _ HB9.out).1 HVA.out.1).mono ?_; rintro e5 V10 ⟨rfl, k5⟩
            have HBA := Lib.hid (HB9.out.trans (k5.mono HB9.out.size))
            have HQA := Lib.hid (HQ9.out.trans (k5.mono HQ9.out.size))
            have HRMA := Lib.hid (HRM.out.below k5)
            clear k5
            have C6 := check_g A3 c3 ML V10 HRMA.out HML.out (HIN.out _ HBA.out).2 HVA.out.2
            rw [HWM.out, HCK.out] at C6
            clear HCK
            have HRI := Lib.hid (chkR_le (wsL L) (keysOf (wsL L)) L ([], 0) 0)
            obtain ⟨r, hr⟩ : ∃ r, chkR (wsL L) (keysOf (wsL L)) ([], 0) 0 L = r := ⟨_, rfl⟩
            rw [hr] at C6 HRI ⊢
            clear hr
            obtain ⟨i1, bb⟩ := r
            have HC6 := Lib.hid C6
            clear C6
            have wi : IntKind.i64.wrap ((i1 : Int) + 1) = (i1 : Int) + 1 := by have := HRI.out; have := H150.out; exact IntWalk.i64_in _ (by simp at *; omega)
            cases bb
            · go_wp2_with fail
              refine HC6.out.mono ?_; rintro e6 V11 ⟨rfl, k6⟩
              have HBC := Lib.hid (HBA.out.trans (k6.mono HBA.out.size))
              have HQC := Lib.hid (HQA.out.trans (k6.mono HQA.out.size))
              have HRMC := Lib.hid (HRMA.out.below k6)
              clear k6
              rw [if_neg (by simp)]
              go_wp2_with fail
              refine (cw_g A c L _ (HRL.out.below HQC.out) (by have := H150.out; omega) (HIN.out _ (HBC.out)).1 HVA.out.1).mono ?_; rintro e7 V12 ⟨⟨A7, c7, rfl⟩, k7⟩
              have HBD := Lib.hid (HBC.out.trans (k7.mono HBC.out.size))
              have HRM2 := Lib.hid (HRMC.out.below k7)
              clear k7
              go_wp2_with fail
              have C8 := cw_g A3 c3 ML V12 HRM2.out HML.out (HIN.out _ (HBD.out)).2 HVA.out.2
              rw [HWM.out] at C8
              refine C8.mono ?_; rintro e8 V13 ⟨⟨A8, c8, rfl⟩, k8⟩
              have HBE := Lib.hid (HBD.out.trans (k8.mono HBD.out.size))
              clear k8 C8
              go_wp2_with fail
              refine (known25 _).mono ?_; rintro e9 V14 ⟨rfl, k9⟩
              have HBF := Lib.hid (HBE.out.trans (k9.mono HBE.out.size))
              clear k9
              go_wp2_with fail
              go_ret
              exact ⟨by first | exact trivial | rfl, HBF.out⟩
            · by_cases hki : k ≤ i1
              · have tk : decide ((k : Int) ≤ (i1 : Int)) = true := by simpa using hki
                go_wp2_with fail
                refine HC6.out.mono ?_; rintro e6 V11 ⟨rfl, k6⟩
                have HBC := Lib.hid (HBA.out.trans (k6.mono HBA.out.size))
                have HQC := Lib.hid (HQA.out.trans (k6.mono HQA.out.size))
                have HRMC := Lib.hid (HRMA.out.below k6)
                clear k6
                rw [if_pos ⟨by first | exact trivial | rfl, hki⟩]
                go_wp2_with fail
                refine (cw_g A c L _ (HRL.out.below HQC.out) (by have := H150.out; omega) (HIN.out _ (HBC.out)).1 HVA.out.1).mono ?_; rintro e7 V12 ⟨⟨A7, c7, rfl⟩, k7⟩
                have HBD := Lib.hid (HBC.out.trans (k7.mono HBC.out.size))
                have HRM2 := Lib.hid (HRMC.out.below k7)
                clear k7
                go_wp2_with fail
                have C8 := cw_g A3 c3 ML V12 HRM2.out HML.out (HIN.out _ (HBD.out)).2 HVA.out.2
                rw [HWM.out] at C8
                refine C8.mono ?_; rintro e8 V13 ⟨⟨A8, c8, rfl⟩, k8⟩
                have HBE := Lib.hid (HBD.out.trans (k8.mono HBD.out.size))
                clear k8 C8
                go_wp2_with fail
                refine (known25 _).mono ?_; rintro e9 V14 ⟨rfl, k9⟩
                have HBF := Lib.hid (HBE.out.trans (k9.mono HBE.out.size))
                clear k9
                go_wp2_with fail
                go_ret
                exact ⟨by first | exact trivial | rfl, HBF.out⟩
              · have tk : decide ((k : Int) ≤ (i1 : Int)) = false := by simpa using hki
                go_wp2_with fail
                refine HC6.out.mono ?_; rintro e6 V11 ⟨rfl, k6⟩
                have HBC := Lib.hid (HBA.out.trans (k6.mono HBA.out.size))
                have HQC := Lib.hid (HQA.out.trans (k6.mono HQA.out.size))
                have HRMC := Lib.hid (HRMA.out.below k6)
                clear k6
                rw [if_neg (fun q => hki q.2)]
                go_wp2_with fail
                refine (cw_g A c L _ (HRL.out.below HQC.out) (by have := H150.out; omega) (HIN.out _ (HBC.out)).1 HVA.out.1).mono ?_; rintro e7 V12 ⟨⟨A7, c7, rfl⟩, k7⟩
                have HBD := Lib.hid (HBC.out.trans (k7.mono HBC.out.size))
                have HRM2 := Lib.hid (HRMC.out.below k7)
                clear k7
                go_wp2_with fail
                have C8 := cw_g A3 c3 ML V12 HRM2.out HML.out (HIN.out _ (HBD.out)).2 HVA.out.2
                rw [HWM.out] at C8
                refine C8.mono ?_; rintro e8 V13 ⟨⟨A8, c8, rfl⟩, k8⟩
                have HBE := Lib.hid (HBD.out.trans (k8.mono HBD.out.size))
                clear k8 C8
                go_wp2_with fail
                refine (known25 _).mono ?_; rintro e9 V14 ⟨rfl, k9⟩
                have HBF := Lib.hid (HBE.out.trans (k9.mono HBE.out.size))
                clear k9
                go_wp2_with fail
                go_ret
                exact ⟨by first | exact trivial | rfl, HBF.out⟩
    · go_wp2_with fail
      go_ret
      exact ⟨rfl, HB3.out⟩
  · clear hb
    refine wpList_step (fun KK hKK => ?_)
    go_simp
    refine hKK _ _ ?_
    refine wpList_step (fun KK hKK => ?_)
    go_simp
    refine hKK _ _ ?_
    refine wpList_step (fun KK hKK => ?_)
    go_simp
    refine hKK _ _ ?_
    refine wpList_step (fun KK hKK => ?_)
    go_simp
    refine hKK _ _ ?_
    refine wpList_plain rfl (fun KK hKK => ?_)
    go_simp
    refine hKK _ _ ?_
    refine wpList_nil ?_
    go_wp2_with fail
    go_ret
    exact ⟨rfl, HB1.out⟩
theorem nil_cap {H : Type} {enc : TypeId × Value → H} {w : World} {base : Nat} {sp : Nat → Bool} {n c : Nat} {d : DataW H} {p : List MemPlace} (h : DataW.Trod enc Try.prog w base sp true 22 (.slice none n c) d p) : c = 0 := by
  obtain ⟨fuel, hf⟩ := h
  rcases Go.Deep.open_slice Try.underlying22 hf with ⟨hcs, _⟩ | ⟨a, len, cap, mm, k, D, Pl, hcs, _⟩
  · simp [Value.cells] at hcs
    exact hcs.2
  · simp [Value.cells] at hcs
set_option maxRecDepth 100000 in
theorem causalOthers_lifted (os : Os) (started : os.Started) (H : Type) (enc : TypeId × Value → H) :
    ReturnsInHanded {} Try.checked os 4 .any (Rows.causalOthersSpec.pre6 enc Try.prog Try.f4 Rows.causalOthersRow.domain false) (Rows.causalOthersSpec.post enc Try.prog Try.f4 false true false false) := by
  refine returnsInHanded_of_change_sized (C := Try.checked) law_own started (by kernel_rfl) Try.func4
    (ChangeSpec.witness6 (enc := enc) (C := Try.checked) false ⟨#[], #[.slice none 0 0, .int .i64 0, .agg #[.int .i64 0, .int .i64 0, .int .i64 0, .int .i64 0, .int .u8 0, .int .i64 0, .int .i64 0, .string ⟨#[]⟩, .string ⟨#[]⟩, .slice none 0 0], .int .i64 0], []⟩ 8 (by kernel_rfl) (by kernel_rfl) (by kernel_rfl) (by kernel_rfl)) ?_
  intro W base args ds gs before hval0 hW hcnd hsz0 _
  have hval : ∀ (j : Nat) t v, Try.f4.params[j]? = some t → args[j]? = some v → Value.okWide Try.prog W .any base t v := hval0
  have hsz : (DataW.weightsEach Try.prog (Try.f4.params.toList ++ Rows.causalOthersSpec.plain.varTypes Try.prog) (ds ++ gs)).all (· ≤ reachBytes) = true := hsz0
  have hW' := hW
  obtain ⟨p, q, hA0, hV, rfl, hfz, hnd⟩ := hW
  have hA : DataW.TrodAll enc Try.prog W 0 (fun _ => true) true Try.f4.params.toList args.toList ds p := hA0
  rw [Try.params4] at hA hval hsz
  have hsame : (Rows.causalOthersSpec.fn H (ds ++ gs)).results = [.lit (.bool true)] ∧ (Rows.causalOthersSpec.fn H (ds ++ gs)).args = ds ∧ (Rows.causalOthersSpec.fn H (ds ++ gs)).vars = [] → ∀ W', Below W.heap.size W W' → Rows.causalOthersSpec.post enc Try.prog Try.f4 false true false false W args (.bool true) W' :=
    fun h W' hb => law_post (tb := 4) hW' law_laid (by kernel_rfl) rfl Try.underlying4 h.1 h.2.1 rfl h.2.2 hb
  obtain ⟨v0, vs0, d0, ds0, p0, q0, hargs, rfl, rfl, h0, r0⟩ := trodAll_cons hA
  obtain ⟨v1, vs1, d1, ds1, p1, q1, rfl, rfl, rfl, h1, r1⟩ := trodAll_cons r0
  obtain ⟨v2, vs2, d2, ds2, p2, q2, rfl, rfl, rfl, h2, r2⟩ := trodAll_cons r1
  obtain ⟨v3, vs3, d3, ds3, p3, q3, rfl, rfl, rfl, h3, r3⟩ := trodAll_cons r2
  obtain ⟨rfl, rfl, rfl⟩ := trodAll_nil r3
  obtain rfl : args = #[v0, v1, v2, v3] := by cases args; simp_all
  obtain ⟨rfl, rfl⟩ := trodVars_none hV
  have hpost := hsame ⟨rfl, rfl, rfl⟩
  clear hsame hA0 hval0 hsz0
  obtain ⟨L, LA, lc, rfl, s1, s2, s3, s4, s5, s6⟩ := open_rows (fun a : EvA => a.e.cs) 18 (by omega) (fun _ => rfl) Try.underlying22 event_cells25 (fun a => EvIn W a) (fun _ _ => True) ⟨⟨0, 0, 0, 0, 0, 0, 0, 0, ⟨#[]⟩, ⟨#[]⟩, none, 0, 0, 0, 0, 0, 0, false, none, 0, 0, none, 0, 0⟩, [], [], []⟩ (fun fuel cs x h1 h2 => event_trod fuel cs x h1 h2) (hval 0 22 v0 rfl rfl) h0
  obtain ⟨a1, rfl, rfl, rfl, wf1⟩ := open_int Try.underlying3 (hval 1 3 v1 rfl rfl) h1
  obtain ⟨kd, nd, nn, mm, by8, sm, sc, key, hi, VA, p, vc, rfl, p1, p2, p3, p4⟩ := open_step (hval 2 41 v2 rfl rfl) h2
  obtain ⟨a3, rfl, rfl, rfl, wf3⟩ := open_int Try.underlying3 (hval 3 3 v3 rfl rfl) h3
  have hcn : LA = none → lc = 0 ∧ L = [] := fun q => by
    subst q
    exact ⟨nil_cap h0, List.length_eq_zero_iff.1 (s5 rfl)⟩
  have hw := law_others LA lc L a1 kd nd nn mm by8 sm sc key hi VA p vc a3 W s3 hcn s1 (Nat.le_trans s1 s2) s4 p1 p2 p3 p4
  exact (hw).mono fun e W' ⟨he, hb⟩ => ⟨_, he, hpost W' hb⟩
theorem causalOthers_holds : Rows.CausalOthersSaid :=
  OpenClaim.holds_of_wide 4 Try.f4 rfl rfl rfl rfl rfl rfl rfl ⟨rfl, rfl, rfl, rfl, rfl⟩ rfl rfl rfl rfl rfl (by kernel_rfl) Try.func4 (by kernel_rfl)
    (of_decide_eq_true (by kernel_rfl)) (by unfold Func.isWrapper; first | (rw [if_pos (by decide +kernel)]; kernel_rfl) | (rw [if_neg (by decide +kernel)]; exact ⟨rfl, rfl⟩))
    (fun os started H enc _ => causalOthers_lifted os started H enc)
end Go.Proofs.Ytdjhpajmbddffaa

