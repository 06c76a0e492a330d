/- Stage 16: check of the one record of known (written by gen/ck16.py). -/
import Derived.Test.YtpflbhcgkndpcaaGreatDoorG16c
import Derived.Test.YtpflbhcgkndpcaaGreatDoorG16j
import Derived.Test.YtpflbhcgkndpcaaGreatDoorHlcCmp
set_option linter.unusedSimpArgs false
set_option linter.unusedVariables false
namespace Go.Proofs.YtpflbhcgkndpcaaGreatDoor
open Go.RowKit

set_option maxRecDepth 100000 in
set_option maxHeartbeats 8000000 in
theorem check_one (s d : Nat) (lg : Value) (en : Int) (m g : Nat) (A : Option Addr) (c c1 : Nat) (w : World) (hs : Bk w s (stE d lg en m)) (hg : w.rangeAt g 0 (rc1 A c)) (hgl : g < w.heap.size) : Calls Tryz.prog 27 #[.pointer (some ⟨s, 0, none⟩), .slice (some ⟨g, 0, none⟩) 1 c1] w fun e w' => e = .returned (.int .i64 0) ∧ Below w.heap.size w w' := by
  have HS := Lib.hid hs
  have HG := Lib.hid hg
  have HGL := Lib.hid hgl
  clear hs hg hgl
  go_enter Tryz.func27, Tryz.ntmps27
  go_upto_region 4 with fail
  refine wp_loop_rounds 2 ?_
  rw [rounds_succ]
  go_upto_region 5 with fail
  refine wp_region_lit ?_
  refine wpList_plain rfl (fun KK hKK => ?_)
  go_simp
  refine hKK _ _ ?_
  refine wpList_load_mid rfl 46 (.tmp 18) rfl g 0 (by first | rfl | simp) (rc1 A c) _ HG.out Tryz.underlying46 rfl rec_size ?_
  refine wpList_plain rfl (fun KK hKK => ?_)
  go_simp
  refine hKK _ _ ?_
  refine wpList_store_new16 rfl 46 (.tmp 6) (.tmp 19) rfl #[.int .i64 0, .int .i64 0, .string ⟨#[]⟩, .int .i64 0, .int .i64 0, .int .i64 0, .slice none 0 0, .bool false, .int .i64 0] (rc1 A c).toArray rfl rfl (by rw [rec_size]; rfl) rfl (by simp [rc1, Value.oneCell']) ?_
  refine wpList_nil ?_
  obtain ⟨V1, hV⟩ : ∃ V, w.alloc (.cells (rc1 A c).toArray 46) = V := ⟨_, rfl⟩
  have k1 : Below w.heap.size w V1 := by rw [← hV]; exact (Below.refl _ _).alloc (Nat.le_refl _) _
  have r1 : V1.rangeAt w.heap.size 0 (rc1 A c) := by rw [← hV]; exact range16 _ _ _
  rw [hV]
  clear hV
  have HS1 := Lib.hid (HS.out.below k1)
  have HG1 := Lib.hid (rng_below HG.out k1 HGL.out)
  have HGL1 := Lib.hid (Nat.lt_of_lt_of_le HGL.out k1.size)
  have HB1 := Lib.hid k1
  clear k1 HS
  go_upto_region 6 with fail
  refine wp_region_lit ?_
  refine wpList_load_mid rfl 46 (.tmp 6) rfl w.heap.size 0 (by first | rfl | simp) (rc1 A c) _ r1 Tryz.underlying46 rfl rec_size ?_
  clear r1
  refine wpList_plain rfl (fun KK hKK => ?_)
  go_simp
  (go_at_call 54; refine (rec_is 0 1 ⟨#[107]⟩ 5 0 0 A 1 c false 0 V1).mono ?_; rintro e1 V2 ⟨rfl, k2⟩)
  rw [show okN 0 1 (ByteArray.mk #[107]).size 5 0 0 1 false 0 = true from by decide]
  have HS2 := Lib.hid (HS1.out.below k2)
  have HG2 := Lib.hid (rng_below HG1.out k2 HGL1.out)
  have HGL2 := Lib.hid (Nat.lt_of_lt_of_le HGL1.out k2.size)
  have HB2 := Lib.hid (HB1.out.trans (k2.mono HB1.out.size))
  clear k2 HS1 HG1 HGL1 HB1
  refine hKK _ _ ?_
  refine wpList_plain rfl (fun KK hKK => ?_)
  go_simp
  refine hKK _ _ ?_
  refine wpList_nil ?_
  go_wp2_with fail
  rw [rounds_succ]
  go_upto_region 9 with fail
  refine wp_region_lit ?_
  refine wpList_plain rfl (fun KK hKK => ?_)
  go_simp
  refine hKK _ _ ?_
  refine wpList_plain rfl (fun KK hKK => ?_)
  go_simp
  refine hKK _ _ ?_
  refine wpList_plain rfl (fun KK hKK => ?_)
  go_simp
  refine hKK _ _ ?_
  refine wpList_load_mid rfl 90 (.tmp 26) rfl s 10 (by first | rfl | simp) zr15 _ (zr_at HS2.out) Tryz.underlying90 rfl ap_size ?_
  refine wpList_plain rfl (fun KK hKK => ?_)
  go_simp
  refine hKK _ _ ?_
  refine wpList_store_new16 rfl 90 (.tmp 7) (.tmp 27) rfl #[.int .i64 0, .int .i64 0, .int .i64 0, .int .i64 0, .int .i64 0, .int .i64 0, .int .i64 0, .int .i64 0, .int .i64 0, .int .i64 0, .int .i64 0, .int .i64 0, .int .i64 0, .int .i64 0, .int .i64 0] zr15.toArray rfl rfl (by rw [ap_size]; rfl) rfl (by simp [zr15, Value.oneCell']) ?_
  refine wpList_nil ?_
  obtain ⟨V3, hV⟩ : ∃ V, V2.alloc (.cells zr15.toArray 90) = V := ⟨_, rfl⟩
  have k3 : Below V2.heap.size V2 V3 := by rw [← hV]; exact (Below.refl _ _).alloc (Nat.le_refl _) _
  have ba : Bk V3 V2.heap.size zr15 := by rw [← hV]; exact Bk.new V2 zr15.toArray 90
  rw [hV]
  clear hV
  have HS3 := Lib.hid (HS2.out.below k3)
  have HG3 := Lib.hid (rng_below HG2.out k3 HGL2.out)
  have HGL3 := Lib.hid (Nat.lt_of_lt_of_le HGL2.out k3.size)
  have HB3 := Lib.hid (HB2.out.trans (k3.mono HB2.out.size))
  have HAP := Lib.hid ba
  have HAL : Hid (w.heap.size ≤ V2.heap.size ∧ s < V2.heap.size) := Lib.hid ⟨HB2.out.size, HS2.out.lt⟩
  clear k3 ba HS2 HG2 HGL2 HB2
  generalize V2.heap.size = ap at *
  go_upto_region 11 with fail
  refine wp_loop_rounds 2 ?_
  rw [rounds_succ]
  go_upto_region 12 with fail
  refine wp_region_lit ?_
  refine wpList_plain rfl (fun KK hKK => ?_)
  go_simp
  refine hKK _ _ ?_
  refine wpList_load_mid rfl 46 (.tmp 32) rfl g 0 (by first | rfl | simp) (rc1 A c) _ HG3.out Tryz.underlying46 rfl rec_size ?_
  refine wpList_plain rfl (fun KK hKK => ?_)
  go_simp
  refine hKK _ _ ?_
  refine wpList_store_new16 rfl 46 (.tmp 9) (.tmp 33) rfl #[.int .i64 0, .int .i64 0, .string ⟨#[]⟩, .int .i64 0, .int .i64 0, .int .i64 0, .slice none 0 0, .bool false, .int .i64 0] (rc1 A c).toArray rfl rfl (by rw [rec_size]; rfl) rfl (by simp [rc1, Value.oneCell']) ?_
  refine wpList_nil ?_
  obtain ⟨V4, hV⟩ : ∃ V, V3.alloc (.cells (rc1 A c).toArray 46) = V := ⟨_, rfl⟩
  have k4 : Below V3.heap.size V3 V4 := by rw [← hV]; exact (Below.refl _ _).alloc (Nat.le_refl _) _
  have bx : Bk V4 V3.heap.size (rc1 A c) := by rw [← hV]; exact Bk.new V3 (rc1 A c).toArray 46
  rw [hV]
  clear hV
  have HS4 := Lib.hid (HS3.out.below k4)
  have HB4 := Lib.hid (HB3.out.trans (k4.mono HB3.out.size))
  have HA4 := Lib.hid (HAP.out.below k4)
  have HX4 := Lib.hid bx
  have HXA : Hid (ap < V3.heap.size) := Lib.hid HAP.out.lt
  clear k4 bx HS3 HG3 HGL3 HB3 HAP
  generalize V3.heap.size = x at *
  have x0 := HX4.out.block (i := 0) rfl
  go_upto_region 14 with fail
  clear x0
  refine wp_region_held_drew (S := fun w' => w'.cell? ⟨x, 1, none⟩ = some (.int .i64 1) ∧ w'.cell? ⟨x, 3, none⟩ = some (.int .i64 5) ∧ w'.cell? ⟨x, 4, none⟩ = some (.int .i64 0) ∧ w'.cell? ⟨ap, 0, none⟩ = some (.int .i64 0) ∧ w'.cell? ⟨ap, 1, none⟩ = some (.int .i64 0) ∧ w'.cell? ⟨ap, 2, none⟩ = some (.int .i64 0) ∧ w'.cell? ⟨s, 8, none⟩ = some (.int .i64 0) ∧ w'.cell? ⟨s, 9, none⟩ = some (.int .i64 0)) (by kernel_rfl) ?_ (fun hHeld => ?_)
  · exact ⟨HX4.out.block (i := 1) rfl, HX4.out.block (i := 3) rfl, HX4.out.block (i := 4) rfl, HA4.out.block (i := 0) rfl, HA4.out.block (i := 1) rfl, HA4.out.block (i := 2) rfl, HS4.out.block (i := 8) rfl, HS4.out.block (i := 9) rfl⟩
  have kd : Below V4.heap.size V4 V4.drew := (Below.refl _ _).drew
  obtain ⟨V5, hV5⟩ : ∃ V, V4.drew = V := ⟨_, rfl⟩
  rw [hV5] at kd hHeld ⊢
  clear hV5
  have HS5 := Lib.hid (HS4.out.below kd)
  have HB5 := Lib.hid (HB4.out.trans (kd.mono HB4.out.size))
  have HA5 := Lib.hid (HA4.out.below kd)
  have HX5 := Lib.hid (HX4.out.below kd)
  clear kd HS4 HB4 HA4 HX4
  refine tk9 0 ?_
  refine tk9 1 ?_
  refine tk9 2 ?_
  refine tk9 3 ?_
  refine tk9 4 ?_
  refine tk9 5 ?_
  refine tk9 6 ?_
  refine tk9 7 ?_
  refine tk9 8 ?_
  refine tk9 9 ?_
  refine tk9 10 ?_
  refine tk9 11 ?_
  refine tk9 12 ?_
  refine tk9 13 ?_
  refine tk9 14 ?_
  refine tk9 15 ?_
  refine wpAnyH_ready (rs := [16]) (by kernel_rfl) (by simp) ?_
  refine AllReadyH.cons rfl (fun K hK => ?_) (AllReadyH.nil)
  (try rw [if_pos (by rfl)])
  go_simp
  (go_at_call 37; refine (hlc_compare 5 0 0 0 V5).mono ?_; rintro e1 V6 ⟨rfl, k6⟩)
  have HS6 := Lib.hid (HS5.out.below k6)
  have HB6 := Lib.hid (HB5.out.trans (k6.mono HB5.out.size))
  have HA6 := Lib.hid (HA5.out.below k6)
  have HX6 := Lib.hid (HX5.out.below k6)
  clear k6 HS5 HB5 HA5 HX5
  rw [show cmp2 5 0 0 0 = 1 from by decide]
  (try dsimp only)
  refine hK.out _ _ ?_ (fun hHeld => ?_)
  · exact ⟨HX6.out.block (i := 1) rfl, HX6.out.block (i := 3) rfl, HX6.out.block (i := 4) rfl, HA6.out.block (i := 0) rfl, HA6.out.block (i := 1) rfl, HA6.out.block (i := 2) rfl, HS6.out.block (i := 8) rfl, HS6.out.block (i := 9) rfl⟩
  clear hK K
  (try simp only [Act.put, List.setIfInBounds_toArray, List.set_cons_zero, List.set_cons_succ, List.getElem_toArray, List.getElem_cons_succ, List.getElem_cons_zero])
  refine tk9 17 ?_
  refine tk9 18 ?_
  refine tk9 19 ?_
  refine tk9 20 ?_
  refine tk9 21 ?_
  refine tk9 22 ?_
  refine tk9 23 ?_
  refine tk9 24 ?_
  refine tk9 25 ?_
  refine tk9 26 ?_
  refine wpAnyH_ready (rs := [27]) (by kernel_rfl) (by simp) ?_
  refine AllReadyH.cons rfl (fun K hK => ?_) (AllReadyH.nil)
  (try rw [if_pos (by rfl)])
  go_simp
  (go_at_call 37; refine (hlc_compare 5 0 0 0 V6).mono ?_; rintro e1 V7 ⟨rfl, k7⟩)
  have HS7 := Lib.hid (HS6.out.below k7)
  have HB7 := Lib.hid (HB6.out.trans (k7.mono HB6.out.size))
  have HA7 := Lib.hid (HA6.out.below k7)
  have HX7 := Lib.hid (HX6.out.below k7)
  clear k7 HS6 HB6 HA6 HX6
  rw [show cmp2 5 0 0 0 = 1 from by decide]
  (try dsimp only)
  refine hK.out _ _ ?_ (fun hHeld => ?_)
  · exact ⟨HX7.out.block (i := 1) rfl, HX7.out.block (i := 3) rfl, HX7.out.block (i := 4) rfl, HA7.out.block (i := 0) rfl, HA7.out.block (i := 1) rfl, HA7.out.block (i := 2) rfl, HS7.out.block (i := 8) rfl, HS7.out.block (i := 9) rfl⟩
  clear hK K
  (try simp only [Act.put, List.setIfInBounds_toArray, List.set_cons_zero, List.set_cons_succ, List.getElem_toArray, List.getElem_cons_succ, List.getElem_cons_zero])
  refine tk9 28 ?_
  refine tk9 29 ?_
  refine wpAnyH_done (by kernel_rfl) ?_ _
  clear hHeld
  have x1 := HX7.out.block (i := 1) rfl
  have x3 := HX7.out.block (i := 3) rfl
  have x4 := HX7.out.block (i := 4) rfl
  go_upto_region 16 with fail
  refine wp_region_lit ?_
  refine wpList_plain rfl (fun KK hKK => ?_)
  go_simp
  refine hKK _ _ ?_
  refine wpList_plain rfl (fun KK hKK => ?_)
  go_simp
  refine hKK _ _ ?_
  refine wpList_plain rfl (fun KK hKK => ?_)
  go_simp
  refine hKK _ _ ?_
  refine wpList_plain rfl (fun KK hKK => ?_)
  go_simp
  refine hKK _ _ ?_
  refine wpList_plain rfl (fun KK hKK => ?_)
  go_simp
  refine hKK _ _ ?_
  refine wpList_plain rfl (fun KK hKK => ?_)
  go_simp
  refine hKK _ _ ?_
  refine wpList_plain rfl (fun KK hKK => ?_)
  go_simp
  refine hKK _ _ ?_
  refine wpList_plain rfl (fun KK hKK => ?_)
  go_simp
  refine hKK _ _ ?_
  refine wpList_plain rfl (fun KK hKK => ?_)
  refine wp_store_mid 89 (.tmp 74) (.tmp 73) rfl ap 0 #[.int .i64 1, .int .i64 5, .int .i64 0] rfl rfl (ap_there HA7.out) last_size (by simp [Value.oneCell']) ?_
  refine hKK _ _ ?_
  refine wpList_nil ?_
  have HB8 := Lib.hid (below_sets w.heap.size ap HAL.out.1 w [.int .i64 1, .int .i64 5, .int .i64 0] 0 _ HB7.out)
  clear x1 x3 x4
  go_wp2_with fail
  rw [rounds_succ]
  go_wp2_with fail
  go_ret
  exact ⟨rfl, HB8.out⟩
end Go.Proofs.YtpflbhcgkndpcaaGreatDoor
