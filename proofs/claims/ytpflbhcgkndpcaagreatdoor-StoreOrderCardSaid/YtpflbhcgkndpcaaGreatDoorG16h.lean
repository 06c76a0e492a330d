/- Stage 16: known of the laws (written by gen/kn16.py). -/
import Derived.Test.YtpflbhcgkndpcaaGreatDoorPt16
import Derived.Test.YtpflbhcgkndpcaaGreatDoorG16r
import Derived.Lib.SlBytesConst
/- Stage 16: Get behind the one record (written by gen/gt16.py). -/
set_option linter.unusedSimpArgs false
set_option linter.unusedVariables false
namespace Go.Proofs.YtpflbhcgkndpcaaGreatDoor
open Go.RowKit

set_option maxRecDepth 100000 in
theorem readable_ok (s : Nat) (cs : List Value) (tm tc : Int) (w : World) (hs : Bk w s cs) (h8 : cs[8]? = some (.int .i64 0)) (h9 : cs[9]? = some (.int .i64 0)) (hc : cmp2 tm tc 0 0 = 1) : Calls Tryz.prog 33 #[.pointer (some ⟨s, 0, none⟩), .agg #[.int .i64 tm, .int .i64 tc]] w fun e w' => e = .returned (.int .i64 0) ∧ Below w.heap.size w w' := by
  have HS := Lib.hid hs
  have HC8 := Lib.hid h8
  have HC9 := Lib.hid h9
  have HC := Lib.hid hc
  clear hs h8 h9 hc
  go_enter Tryz.func33, Tryz.ntmps33
  go_upto_region 1 with fail
  obtain ⟨V1, hV⟩ : ∃ V, w.alloc (.cells #[.int .i64 tm, .int .i64 tc] 25) = V := ⟨_, rfl⟩
  have k : Below w.heap.size w V1 := by rw [← hV]; exact (Below.refl _ _).alloc (Nat.le_refl _) _
  have bb : Bk V1 w.heap.size [.int .i64 tm, .int .i64 tc] := by rw [← hV]; exact Bk.new w #[.int .i64 tm, .int .i64 tc] 25
  rw [hV]
  clear hV
  have HX1 := Lib.hid bb
  have HB1 := Lib.hid k
  have HS1 := Lib.hid (HS.out.below k)
  clear k bb HS
  generalize hbx : w.heap.size = bx at *
  have HBX := Lib.hid hbx
  clear hbx
  go_upto_region 3 with fail
  refine wp_region_held_drew (S := fun w' => w'.cell? ⟨bx, 0, none⟩ = some (.int .i64 tm) ∧ w'.cell? ⟨bx, 1, none⟩ = some (.int .i64 tc) ∧ w'.cell? ⟨s, 8, none⟩ = some (.int .i64 0) ∧ w'.cell? ⟨s, 9, none⟩ = some (.int .i64 0)) (by kernel_rfl) ?_ (fun hHeld => ?_)
  · exact ⟨HX1.out.block (i := 0) rfl, HX1.out.block (i := 1) rfl, HS1.out.block HC8.out, HS1.out.block HC9.out⟩
  have k : Below V1.heap.size V1 V1.drew := (Below.refl _ _).drew
  obtain ⟨V2, hV2⟩ : ∃ V, V1.drew = V := ⟨_, rfl⟩
  rw [hV2] at k hHeld ⊢
  clear hV2
  have HX2 := Lib.hid (HX1.out.below k)
  have HS2 := Lib.hid (HS1.out.below k)
  have HB2 := Lib.hid (HB1.out.trans (k.mono (HBX.out ▸ HB1.out.size)))
  clear k HX1 HS1 HB1
  refine tk9 0 ?_
  refine tk9 1 ?_
  refine tk9 2 ?_
  refine tk9 3 ?_
  refine tk9 4 ?_
  refine wpAnyH_ready (rs := [5]) (by kernel_rfl) (by simp) ?_
  refine AllReadyH.cons rfl (fun K hK => ?_) (AllReadyH.nil)
  go_simp
  (go_at_call 37; refine (hlc_compare tm tc 0 0 V2).mono ?_; rintro e1 V3 ⟨rfl, k⟩)
  rw [HC.out]
  have HX3 := Lib.hid (HX2.out.below k)
  have HS3 := Lib.hid (HS2.out.below k)
  have HB3 := Lib.hid (HB2.out.trans (k.mono (HBX.out ▸ HB2.out.size)))
  clear k HX2 HS2 HB2
  (try dsimp only)
  refine hK.out _ _ ?_ (fun hHeld => ?_)
  · exact ⟨HX3.out.block (i := 0) rfl, HX3.out.block (i := 1) rfl, HS3.out.block HC8.out, HS3.out.block HC9.out⟩
  clear hK K
  (try simp only [Act.put, List.setIfInBounds_toArray, List.set_cons_zero, List.set_cons_succ, List.getElem_toArray, List.getElem_cons_succ, List.getElem_cons_zero])
  refine tk9 6 ?_
  refine tk9 7 ?_
  refine wpAnyH_done (by kernel_rfl) ?_ _
  clear hHeld
  go_wp2_with fail
  go_ret
  exact ⟨rfl, by rw [HBX.out]; exact HB3.out⟩
theorem st_no {A : Option Addr} {c : Nat} : StandV [(⟨vs1, A, c⟩ : Mv)] (fun x => cmp2 x.ml x.ct 4 9 ≤ 0) 0 := ⟨Nat.zero_le _, (fun j x hj => by omega), (fun j x _ hx => by
  have : j = 0 := by have := (List.getElem?_eq_some_iff.1 hx).1; simp at this; omega
  subst this
  cases hx
  show ¬ cmp2 5 0 4 9 ≤ 0
  decide)⟩
theorem st_yes {A : Option Addr} {c : Nat} : StandV [(⟨vs1, A, c⟩ : Mv)] (fun x => cmp2 x.ml x.ct 5 0 ≤ 0) (0 + 1) := ⟨by simp, (fun j x hj hx => by
  have : j = 0 := by omega
  subst this
  cases hx
  show cmp2 5 0 5 0 ≤ 0
  decide), (fun j x hj hx => by have := (List.getElem?_eq_some_iff.1 hx).1; simp at this; omega)⟩
set_option maxRecDepth 100000 in
theorem get_no (s m vb ch : Nat) (cs : List Value) (v : Value) (A : Option Addr) (c : Nat) (Q : Nat → Prop) (w : World) (hs : Bk w s cs) (h7 : cs[7]? = some (.map (some m))) (hm : w.heap[m]? = some (.map #[⟨.string ⟨#[107]⟩, ptr vb, 0⟩] 1)) (hv : Bk w vb [ptr ch, .int .i64 1]) (hc : Ch Q w ch v [⟨vs1, A, c⟩]) : Calls Tryz.prog 34 #[.pointer (some ⟨s, 0, none⟩), .string ⟨#[107]⟩, .agg #[.int .i64 4, .int .i64 9]] w fun e w' => e = .returned (.tuple #[.slice none 0 0, .bool false]) ∧ Below w.heap.size w w' := by
  have HS := Lib.hid hs
  have H7 := Lib.hid h7
  have HM := Lib.hid hm
  have HV := Lib.hid hv
  have HC := Lib.hid hc
  clear hs h7 hm hv hc
  go_enter Tryz.func34, Tryz.ntmps34
  go_upto_region 1 with fail
  obtain ⟨V1, hV⟩ : ∃ V, w.alloc (.cells #[.int .i64 4, .int .i64 9] 25) = V := ⟨_, rfl⟩
  have k : Below w.heap.size w V1 := by rw [← hV]; exact (Below.refl _ _).alloc (Nat.le_refl _) _
  have bb : Bk V1 w.heap.size [.int .i64 4, .int .i64 9] := by rw [← hV]; exact Bk.new w #[.int .i64 4, .int .i64 9] 25
  rw [hV]
  clear hV
  have HX1 := Lib.hid bb
  have HB1 := Lib.hid k
  have HS1 := Lib.hid (HS.out.below k)
  have HV1 := Lib.hid (HV.out.below k)
  have HC1 := Lib.hid (HC.out.below k)
  have HM1 := Lib.hid (map_but (S := fun _ => False) HM.out (But.of_below k) (fun q => q))
  clear k bb HS HV HC HM
  generalize hbx : w.heap.size = bx at *
  have HBX := Lib.hid hbx
  clear hbx
  refine wp_region_lit ?_
  have c7 := HS1.out.block H7.out
  refine wpList_plain rfl (fun KK hKK => ?_)
  go_simp
  refine hKK _ _ ?_
  refine wpList_plain rfl (fun KK hKK => ?_)
  go_simp
  refine hKK _ _ ?_
  refine wpList_plain rfl (fun KK hKK => ?_)
  go_simp
  refine hKK _ _ ?_
  refine wpList_plain rfl (fun KK hKK => ?_)
  go_simp
  refine hKK _ _ ?_
  refine wpList_plain rfl (fun KK hKK => ?_)
  go_simp
  refine hKK _ _ ?_
  clear c7
  refine wpList_look rfl 87 (.tmp 12) (.tmp 13) false rfl (.map (some m)) (.string ⟨#[107]⟩) (ptr vb) rfl rfl (look_one V1 m 1 0 ⟨#[107]⟩ (ptr vb) HM1.out) ?_
  refine wpList_plain rfl (fun KK hKK => ?_)
  go_simp
  refine hKK _ _ ?_
  refine wpList_nil ?_
  unfold ptr
  go_upto_region 4 with fail
  refine wp_region_held_drew (S := fun w' => w'.cell? ⟨bx, 0, none⟩ = some (.int .i64 4) ∧ w'.cell? ⟨bx, 1, none⟩ = some (.int .i64 9) ∧ w'.cell? ⟨vb, 0, none⟩ = some (.pointer (some ⟨ch, 0, none⟩))) (by kernel_rfl) ?_ (fun hHeld => ?_)
  · exact ⟨HX1.out.block (i := 0) rfl, HX1.out.block (i := 1) rfl, HV1.out.block (i := 0) rfl⟩
  have k : Below V1.heap.size V1 V1.drew := (Below.refl _ _).drew
  obtain ⟨V2, hV2⟩ : ∃ V, V1.drew = V := ⟨_, rfl⟩
  rw [hV2] at k hHeld ⊢
  clear hV2
  have HX2 := Lib.hid (HX1.out.below k)
  have HV2 := Lib.hid (HV1.out.below k)
  have HC2 := Lib.hid (HC1.out.below k)
  have HB2 := Lib.hid (HB1.out.trans (k.mono (HBX.out ▸ HB1.out.size)))
  clear k HX1 HV1 HC1 HB1
  refine tk9 0 ?_
  refine tk9 1 ?_
  refine tk9 2 ?_
  refine tk9 3 ?_
  refine tk9 4 ?_
  refine wpAnyH_ready (rs := [5]) (by kernel_rfl) (by simp) ?_
  refine AllReadyH.cons rfl (fun K hK => ?_) (AllReadyH.nil)
  go_simp
  (go_at_call 62; refine (ch_get_none Q ch v [⟨vs1, A, c⟩] 4 9 V2 HC2.out (by simp) st_no).mono ?_; rintro e1 V3 ⟨rfl, k⟩)
  have HX3 := Lib.hid (HX2.out.below k)
  have HV3 := Lib.hid (HV2.out.below k)
  have HB3 := Lib.hid (HB2.out.trans (k.mono (HBX.out ▸ HB2.out.size)))
  clear k HX2 HV2 HB2
  (try dsimp only)
  refine hK.out _ _ ?_ (fun hHeld => ?_)
  · exact ⟨HX3.out.block (i := 0) rfl, HX3.out.block (i := 1) rfl, HV3.out.block (i := 0) rfl⟩
  clear hK K
  (try simp only [Act.put, List.setIfInBounds_toArray, List.set_cons_zero, List.set_cons_succ, List.getElem_toArray, List.getElem_cons_succ, List.getElem_cons_zero])
  refine tk9 6 ?_
  refine tk9 7 ?_
  refine tk9 8 ?_
  refine tk9 9 ?_
  refine wpAnyH_done (by kernel_rfl) ?_ _
  clear hHeld
  go_wp2_with fail
  go_ret2
  exact ⟨rfl, by rw [HBX.out]; exact HB3.out⟩
set_option maxRecDepth 100000 in
theorem sget_no (s m vb ch : Nat) (cs : List Value) (v : Value) (A : Option Addr) (c : Nat) (Q : Nat → Prop) (w : World) (hs : Bk w s cs) (h7 : cs[7]? = some (.map (some m))) (hm : w.heap[m]? = some (.map #[⟨.string ⟨#[107]⟩, ptr vb, 0⟩] 1)) (hv : Bk w vb [ptr ch, .int .i64 1]) (hc : Ch Q w ch v [⟨vs1, A, c⟩]) (h8 : cs[8]? = some (.int .i64 0)) (h9 : cs[9]? = some (.int .i64 0)) : Calls Tryz.prog 14 #[.pointer (some ⟨s, 0, none⟩), .string ⟨#[107]⟩, .agg #[.int .i64 4, .int .i64 9]] w fun e w' => e = .returned (.tuple #[.slice none 0 0, .bool false, .int .i64 0]) ∧ Below w.heap.size w w' := by
  have HS := Lib.hid hs
  have H7 := Lib.hid h7
  have HM := Lib.hid hm
  have HV := Lib.hid hv
  have HC := Lib.hid hc
  have H89 := Lib.hid (And.intro h8 h9)
  clear hs h7 hm hv hc h8 h9
  go_enter Tryz.func14, Tryz.ntmps14
  go_upto_region 1 with fail
  obtain ⟨V1, hV⟩ : ∃ V, w.alloc (.cells #[.int .i64 4, .int .i64 9] 25) = V := ⟨_, rfl⟩
  have k : Below w.heap.size w V1 := by rw [← hV]; exact (Below.refl _ _).alloc (Nat.le_refl _) _
  have bb : Bk V1 w.heap.size [.int .i64 4, .int .i64 9] := by rw [← hV]; exact Bk.new w #[.int .i64 4, .int .i64 9] 25
  rw [hV]
  clear hV
  have HX1 := Lib.hid bb
  have HB1 := Lib.hid k
  have HS1 := Lib.hid (HS.out.below k)
  have HV1 := Lib.hid (HV.out.below k)
  have HC1 := Lib.hid (HC.out.below k)
  have HM1 := Lib.hid (map_but (S := fun _ => False) HM.out (But.of_below k) (fun q => q))
  clear k bb HS HV HC HM
  generalize hbx : w.heap.size = bx at *
  have HBX := Lib.hid hbx
  clear hbx
  have x0 := HX1.out.block (i := 0) rfl
  have x1 := HX1.out.block (i := 1) rfl
  go_upto_region 4 with (go_at_call 33; refine (readable_ok s cs 4 9 V1 HS1.out H89.out.1 H89.out.2 (by decide)).mono ?_; rintro e1 V2 ⟨rfl, k⟩)
  clear x0 x1
  have HX2 := Lib.hid (HX1.out.below k)
  have HS2 := Lib.hid (HS1.out.below k)
  have HV2 := Lib.hid (HV1.out.below k)
  have HC2 := Lib.hid (HC1.out.below k)
  have HM2 := Lib.hid (map_but (S := fun _ => False) HM1.out (But.of_below k) (fun q => q))
  have HB2 := Lib.hid (HB1.out.trans (k.mono (HBX.out ▸ HB1.out.size)))
  have HLE : Hid (bx ≤ V2.heap.size) := Lib.hid (HBX.out ▸ HB2.out.size)
  clear k HX1 HS1 HV1 HC1 HM1 HB1
  have x0 := HX2.out.block (i := 0) rfl
  have x1 := HX2.out.block (i := 1) rfl
  go_wp2_with (go_at_call 34; refine (get_no s m vb ch cs v A c Q V2 HS2.out H7.out HM2.out HV2.out HC2.out).mono ?_; rintro e2 V3 ⟨rfl, k⟩)
  skip
  go_ret3
  exact ⟨rfl, by rw [HBX.out]; exact HB2.out.trans (k.mono (HBX.out ▸ HB2.out.size))⟩
set_option maxRecDepth 100000 in
theorem get_yes (s m vb ch : Nat) (cs : List Value) (v : Value) (A : Option Addr) (c : Nat) (Q : Nat → Prop) (w : World) (hs : Bk w s cs) (h7 : cs[7]? = some (.map (some m))) (hm : w.heap[m]? = some (.map #[⟨.string ⟨#[107]⟩, ptr vb, 0⟩] 1)) (hv : Bk w vb [ptr ch, .int .i64 1]) (hc : Ch Q w ch v [⟨vs1, A, c⟩]) : Calls Tryz.prog 34 #[.pointer (some ⟨s, 0, none⟩), .string ⟨#[107]⟩, .agg #[.int .i64 5, .int .i64 0]] w fun e w' => (∃ u, e = .returned (.tuple #[u, .bool true]) ∧ w'.ownsRow w.heap.size 5 1 u 1 (bC [97])) ∧ Below w.heap.size w w' := by
  have HS := Lib.hid hs
  have H7 := Lib.hid h7
  have HM := Lib.hid hm
  have HV := Lib.hid hv
  have HC := Lib.hid hc
  clear hs h7 hm hv hc
  go_enter Tryz.func34, Tryz.ntmps34
  go_upto_region 1 with fail
  obtain ⟨V1, hV⟩ : ∃ V, w.alloc (.cells #[.int .i64 5, .int .i64 0] 25) = V := ⟨_, rfl⟩
  have k : Below w.heap.size w V1 := by rw [← hV]; exact (Below.refl _ _).alloc (Nat.le_refl _) _
  have bb : Bk V1 w.heap.size [.int .i64 5, .int .i64 0] := by rw [← hV]; exact Bk.new w #[.int .i64 5, .int .i64 0] 25
  rw [hV]
  clear hV
  have HX1 := Lib.hid bb
  have HB1 := Lib.hid k
  have HS1 := Lib.hid (HS.out.below k)
  have HV1 := Lib.hid (HV.out.below k)
  have HC1 := Lib.hid (HC.out.below k)
  have HM1 := Lib.hid (map_but (S := fun _ => False) HM.out (But.of_below k) (fun q => q))
  clear k bb HS HV HC HM
  generalize hbx : w.heap.size = bx at *
  have HBX := Lib.hid hbx
  clear hbx
  refine wp_region_lit ?_
  have c7 := HS1.out.block H7.out
  refine wpList_plain rfl (fun KK hKK => ?_)
  go_simp
  refine hKK _ _ ?_
  refine wpList_plain rfl (fun KK hKK => ?_)
  go_simp
  refine hKK _ _ ?_
  refine wpList_plain rfl (fun KK hKK => ?_)
  go_simp
  refine hKK _ _ ?_
  refine wpList_plain rfl (fun KK hKK => ?_)
  go_simp
  refine hKK _ _ ?_
  refine wpList_plain rfl (fun KK hKK => ?_)
  go_simp
  refine hKK _ _ ?_
  clear c7
  refine wpList_look rfl 87 (.tmp 12) (.tmp 13) false rfl (.map (some m)) (.string ⟨#[107]⟩) (ptr vb) rfl rfl (look_one V1 m 1 0 ⟨#[107]⟩ (ptr vb) HM1.out) ?_
  refine wpList_plain rfl (fun KK hKK => ?_)
  go_simp
  refine hKK _ _ ?_
  refine wpList_nil ?_
  unfold ptr
  go_upto_region 4 with fail
  refine wp_region_held_drew (S := fun w' => w'.cell? ⟨bx, 0, none⟩ = some (.int .i64 5) ∧ w'.cell? ⟨bx, 1, none⟩ = some (.int .i64 0) ∧ w'.cell? ⟨vb, 0, none⟩ = some (.pointer (some ⟨ch, 0, none⟩))) (by kernel_rfl) ?_ (fun hHeld => ?_)
  · exact ⟨HX1.out.block (i := 0) rfl, HX1.out.block (i := 1) rfl, HV1.out.block (i := 0) rfl⟩
  have k : Below V1.heap.size V1 V1.drew := (Below.refl _ _).drew
  obtain ⟨V2, hV2⟩ : ∃ V, V1.drew = V := ⟨_, rfl⟩
  rw [hV2] at k hHeld ⊢
  clear hV2
  have HX2 := Lib.hid (HX1.out.below k)
  have HV2 := Lib.hid (HV1.out.below k)
  have HC2 := Lib.hid (HC1.out.below k)
  have HB2 := Lib.hid (HB1.out.trans (k.mono (HBX.out ▸ HB1.out.size)))
  clear k HX1 HV1 HC1 HB1
  refine tk9 0 ?_
  refine tk9 1 ?_
  refine tk9 2 ?_
  refine tk9 3 ?_
  refine tk9 4 ?_
  refine wpAnyH_ready (rs := [5]) (by kernel_rfl) (by simp) ?_
  refine AllReadyH.cons rfl (fun K hK => ?_) (AllReadyH.nil)
  go_simp
  (go_at_call 62; refine (ch_get_seen Q ch v [⟨vs1, A, c⟩] 5 0 0 ⟨vs1, A, c⟩ V2 HC2.out (by simp) st_yes rfl vs1_ok (show seenB vs1 5 0 = true by decide) (by decide)).mono ?_; rintro e1 V3 ⟨u, rfl, hu, k⟩)
  have HX3 := Lib.hid (HX2.out.below k)
  have HV3 := Lib.hid (HV2.out.below k)
  have HB3 := Lib.hid (HB2.out.trans (k.mono (HBX.out ▸ HB2.out.size)))
  have HU := Lib.hid hu
  have HLE : Hid (bx ≤ V2.heap.size) := Lib.hid (HBX.out ▸ HB2.out.size)
  clear hu
  clear k HX2 HV2 HB2
  (try dsimp only)
  refine hK.out _ _ ?_ (fun hHeld => ?_)
  · exact ⟨HX3.out.block (i := 0) rfl, HX3.out.block (i := 1) rfl, HV3.out.block (i := 0) rfl⟩
  clear hK K
  (try simp only [Act.put, List.setIfInBounds_toArray, List.set_cons_zero, List.set_cons_succ, List.getElem_toArray, List.getElem_cons_succ, List.getElem_cons_zero])
  refine tk9 6 ?_
  refine tk9 7 ?_
  refine tk9 8 ?_
  refine tk9 9 ?_
  refine wpAnyH_done (by kernel_rfl) ?_ _
  clear hHeld
  go_wp2_with fail
  go_ret2
  exact ⟨⟨u, rfl, own_base (by rw [HBX.out]; exact HLE.out) HU.out⟩, by rw [HBX.out]; exact HB3.out⟩
set_option maxRecDepth 100000 in
theorem sget_yes (s m vb ch : Nat) (cs : List Value) (v : Value) (A : Option Addr) (c : Nat) (Q : Nat → Prop) (w : World) (hs : Bk w s cs) (h7 : cs[7]? = some (.map (some m))) (hm : w.heap[m]? = some (.map #[⟨.string ⟨#[107]⟩, ptr vb, 0⟩] 1)) (hv : Bk w vb [ptr ch, .int .i64 1]) (hc : Ch Q w ch v [⟨vs1, A, c⟩]) (h8 : cs[8]? = some (.int .i64 0)) (h9 : cs[9]? = some (.int .i64 0)) : Calls Tryz.prog 14 #[.pointer (some ⟨s, 0, none⟩), .string ⟨#[107]⟩, .agg #[.int .i64 5, .int .i64 0]] w fun e w' => (∃ u, e = .returned (.tuple #[u, .bool true, .int .i64 0]) ∧ w'.ownsRow w.heap.size 5 1 u 1 (bC [97])) ∧ Below w.heap.size w w' := by
  have HS := Lib.hid hs
  have H7 := Lib.hid h7
  have HM := Lib.hid hm
  have HV := Lib.hid hv
  have HC := Lib.hid hc
  have H89 := Lib.hid (And.intro h8 h9)
  clear hs h7 hm hv hc h8 h9
  go_enter Tryz.func14, Tryz.ntmps14
  go_upto_region 1 with fail
  obtain ⟨V1, hV⟩ : ∃ V, w.alloc (.cells #[.int .i64 5, .int .i64 0] 25) = V := ⟨_, rfl⟩
  have k : Below w.heap.size w V1 := by rw [← hV]; exact (Below.refl _ _).alloc (Nat.le_refl _) _
  have bb : Bk V1 w.heap.size [.int .i64 5, .int .i64 0] := by rw [← hV]; exact Bk.new w #[.int .i64 5, .int .i64 0] 25
  rw [hV]
  clear hV
  have HX1 := Lib.hid bb
  have HB1 := Lib.hid k
  have HS1 := Lib.hid (HS.out.below k)
  have HV1 := Lib.hid (HV.out.below k)
  have HC1 := Lib.hid (HC.out.below k)
  have HM1 := Lib.hid (map_but (S := fun _ => False) HM.out (But.of_below k) (fun q => q))
  clear k bb HS HV HC HM
  generalize hbx : w.heap.size = bx at *
  have HBX := Lib.hid hbx
  clear hbx
  have x0 := HX1.out.block (i := 0) rfl
  have x1 := HX1.out.block (i := 1) rfl
  go_upto_region 4 with (go_at_call 33; refine (readable_ok s cs 5 0 V1 HS1.out H89.out.1 H89.out.2 (by decide)).mono ?_; rintro e1 V2 ⟨rfl, k⟩)
  clear x0 x1
  have HX2 := Lib.hid (HX1.out.below k)
  have HS2 := Lib.hid (HS1.out.below k)
  have HV2 := Lib.hid (HV1.out.below k)
  have HC2 := Lib.hid (HC1.out.below k)
  have HM2 := Lib.hid (map_but (S := fun _ => False) HM1.out (But.of_below k) (fun q => q))
  have HB2 := Lib.hid (HB1.out.trans (k.mono (HBX.out ▸ HB1.out.size)))
  have HLE : Hid (bx ≤ V2.heap.size) := Lib.hid (HBX.out ▸ HB2.out.size)
  clear k HX1 HS1 HV1 HC1 HM1 HB1
  have x0 := HX2.out.block (i := 0) rfl
  have x1 := HX2.out.block (i := 1) rfl
  go_wp2_with (go_at_call 34; refine (get_yes s m vb ch cs v A c Q V2 HS2.out H7.out HM2.out HV2.out HC2.out).mono ?_; rintro e2 V3 ⟨⟨u, rfl, hu⟩, k⟩)
  skip
  go_ret3
  exact ⟨⟨u, rfl, own_base (by rw [HBX.out]; exact HLE.out) hu⟩, by rw [HBX.out]; exact HB2.out.trans (k.mono (HBX.out ▸ HB2.out.size))⟩
end Go.Proofs.YtpflbhcgkndpcaaGreatDoor

/- Stage 16: known of the laws (written by gen/kn16.py). -/
namespace Go.Proofs.YtpflbhcgkndpcaaGreatDoor
open Go.RowKit

theorem cell97 (w : World) : (World.alloc w (.cells #[.int .u8 97] 5 (1, 2))).cell? ⟨w.heap.size, 0, none⟩ = some (.int .u8 97) := by
  have := World.news_of_block (cs := #[.int .u8 97]) (t := 5) (fr := (1, 2)) (heap_alloc_new w (.cells #[.int .u8 97] 5 (1, 2))) 0 _ rfl
  rw [Addr.add_mid] at this
  exact this
/-- A block whose first cell is the letter a. -/
structure By1 (w : World) (b : Nat) : Prop where
  c : w.cell? ⟨b, 0, none⟩ = some (.int .u8 97)
  lt : b < w.heap.size
theorem By1.below {w w' : World} {b : Nat} (h : By1 w b) (k : Below w.heap.size w w') : By1 w' b := ⟨(k.cell (p := ⟨b, 0, none⟩) h.lt).trans h.c, Nat.lt_of_lt_of_le h.lt k.size⟩
theorem same_one (A A' : Option Addr) (c c' : Nat) (w : World) (h : ByL w A [97]) (h' : ByL w A' [97]) : Calls Tryz.prog 22 #[.slice A 1 c, .slice A' 1 c'] w fun e w' => e = .returned (.bool true) ∧ Below w.heap.size w w' := by
  obtain ⟨B, O, rfl, _, hc⟩ := h (by decide)
  obtain ⟨B', O', rfl, _, hc'⟩ := h' (by decide)
  have c0 : w.cell? ⟨B, O, none⟩ = some (.int .u8 97) := hc 0 _ rfl
  have d0 : w.cell? ⟨B', O', none⟩ = some (.int .u8 97) := hc' 0 _ rfl
  clear h h' hc hc'
  go_enter Tryz.func22, Tryz.ntmps22
  go_wp2_with fail
  refine wp_loop_rounds 2 ?_
  rw [rounds_succ]
  go_upto_region 6 with fail
  go_quiet (fail)
  go_wp2_with fail
  rw [rounds_succ]
  go_wp2_with fail
  go_ret
  exact ⟨rfl, by first | exact Below.refl _ _ | (repeat' (first | (with_reducible exact Below.refl _ _) | (with_reducible assumption) | (with_reducible refine Below.trans ?_ (Below.mono (by with_reducible assumption) ?_)) | (with_reducible refine Below.alloc ?_ ?_ _) | (with_reducible refine Below.setCell ?_ ?_ _) | (with_reducible refine below_drewN ?_ _) | (with_reducible refine Below.drew ?_) | go_size))⟩
set_option maxRecDepth 100000 in
set_option maxHeartbeats 8000000 in
theorem known16 (w : World) (ht : Nib w) : Calls Tryz.prog 6 #[] w fun e w' => e = .returned (.bool true) ∧ Below w.heap.size w w' := by
  have hcv := fun W : World => Go.Lib.run_convert_bytes_const (P := Tryz.prog) W 42 5 #[.int .u8 97] 1 1 Tryz.underlying42 Tryz.underlying5
  simp only [List.size_toArray, List.length_cons, List.length_nil, Nat.zero_add, Nat.reduceAdd] at hcv
  have HT := Lib.hid ht
  clear ht
  have HST := Lib.hid (start_none w)
  go_enter Tryz.func6, Tryz.ntmps6
  go_upto_region 2 with (go_at_call 7; refine HST.out.mono ?_; rintro e1 V0 ⟨⟨p, d, s, l, m, x, rd, rfl, hst⟩, k⟩)
  have HT0 := Lib.hid (HT.out.below k)
  have H0 := Lib.hid hst
  have HB0 := Lib.hid k
  have HN := Lib.hid hst.ne
  clear k hst HT HST
  have p1 := H0.out.bp.block (i := 1) rfl
  unfold ptr at p1
  go_upto_region 4 with fail
  refine wp_region_lit ?_
  refine wpList_plain rfl (fun KK hKK => ?_)
  go_simp
  refine hKK _ _ ?_
  refine wpList_plain rfl (fun KK hKK => ?_)
  go_simp
  refine hKK _ _ ?_
  refine wpList_plain rfl (fun KK hKK => ?_)
  go_simp
  refine hKK _ _ ?_
  refine wpList_plain rfl (fun KK hKK => ?_)
  go_simp
  refine hKK _ _ ?_
  refine wpList_plain rfl (fun KK hKK => ?_)
  go_simp
  refine hKK _ _ ?_
  refine wpList_plain rfl (fun KK hKK => ?_)
  go_simp
  refine hKK _ _ ?_
  refine wpList_plain rfl (fun KK hKK => ?_)
  go_simp
  refine hKK _ _ ?_
  clear p1
  obtain ⟨V1, hV⟩ : ∃ V, V0.alloc (.cells #[.int .u8 97] 5 (1, 2)) = V := ⟨_, rfl⟩
  have k : Below V0.heap.size V0 V1 := by rw [← hV]; exact (Below.refl _ _).alloc (Nat.le_refl _) _
  have b1 : By1 V1 V0.heap.size := by rw [← hV]; exact ⟨cell97 V0, by simp⟩
  rw [hV]
  clear hV
  have HT1 := Lib.hid (HT0.out.below k)
  have H1 := Lib.hid (H0.out.below k)
  have HB1 := Lib.hid (HB0.out.trans (k.mono HB0.out.size))
  have HA1 := Lib.hid b1
  have HX0 : Hid (p < V0.heap.size ∧ m < V0.heap.size ∧ s < V0.heap.size ∧ l < V0.heap.size ∧ d < V0.heap.size) := Lib.hid ⟨H0.out.bp.lt, (Array.getElem?_eq_some_iff.1 H0.out.hm).1, H0.out.bs.lt, H0.out.bl.lt, H0.out.bd.lt⟩
  clear k b1 HT0 H0 HB0
  generalize V0.heap.size = ab at *
  refine wpList_plain rfl (fun KK hKK => ?_)
  go_simp
  refine hKK _ _ ?_
  refine wpList_plain rfl (fun KK hKK => ?_)
  go_simp
  refine hKK _ _ ?_
  refine wpList_plain rfl (fun KK hKK => ?_)
  go_simp
  refine hKK _ _ ?_
  obtain ⟨V2, hV⟩ : ∃ V, V1.alloc (.cells (rc1 (some ⟨ab, 0, none⟩) 1).toArray 46) = V := ⟨_, rfl⟩
  have k : Below V1.heap.size V1 V2 := by rw [← hV]; exact (Below.refl _ _).alloc (Nat.le_refl _) _
  have b2 : Bk V2 V1.heap.size (rc1 (some ⟨ab, 0, none⟩) 1) := by rw [← hV]; exact Bk.new V1 (rc1 (some ⟨ab, 0, none⟩) 1).toArray 46
  rw [show V1.alloc (.cells #[.int .i64 0, .int .i64 1, .string ⟨#[107]⟩, .int .i64 5, .int .i64 0, .int .i64 0, .slice (some ⟨ab, 0, none⟩) 1 1, .bool false, .int .i64 0] 46) = V2 from hV]
  clear hV
  have HT2 := Lib.hid (HT1.out.below k)
  have H2 := Lib.hid (H1.out.below k)
  have HB2 := Lib.hid (HB1.out.trans (k.mono HB1.out.size))
  have HA2 := Lib.hid (HA1.out.below k)
  have HG2 := Lib.hid b2
  have HX1 : Hid (ab < V1.heap.size ∧ x < V1.heap.size) := Lib.hid ⟨HA1.out.lt, by obtain ⟨lg, q⟩ := H1.out.bx; exact q.lt⟩
  clear k b2 HT1 H1 HB1 HA1
  generalize V1.heap.size = g at *
  have HPT := Lib.hid (put_one s l d m g (some ⟨ab, 0, none⟩) 1 1 V2 HT2.out H2.out.bs H2.out.bl H2.out.bd H2.out.hm (fun j u hu => by rw [Nat.zero_add]; exact HG2.out.c j u hu) HG2.out.lt (fun _ => ⟨ab, 0, rfl, HA2.out.lt, fun j u hu => by rw [Nat.zero_add]; match j, hu with | 0, hu => injection hu with hu; subst hu; exact HA2.out.c⟩) (by have := HN.out; have := HX1.out; have := HX0.out; omega) (fun ad e => by injection e with e; subst e; have := HX0.out; show ab ≠ m ∧ ab ≠ s ∧ ab ≠ l ∧ ab ≠ d; omega))
  refine wpList_plain rfl (fun KK hKK => ?_)
  go_simp
  (go_at_call 10; refine HPT.out.mono ?_; rintro e2 V3 ⟨rfl, ⟨vb, ch, v', A', c', Q, cs, q1, q2, q3, q4, q5, q6, q7, q8, q9⟩, k⟩)
  have HP3 := Lib.hid (H2.out.bp.but k (by have := HN.out; omega))
  have HC3 := Lib.hid q1
  have HV3 := Lib.hid q3
  have HM3 := Lib.hid q4
  have HS3 := Lib.hid q5
  have HCS := Lib.hid (And.intro q6 (And.intro q7 q8))
  have HB3 := Lib.hid (HB2.out.trans (k.below (fun i hi => by have := HN.out; omega) HB2.out.size))
  clear q1 q2 q3 q4 q5 q6 q7 q8 q9 k HT2 H2 HB2 HA2 HG2 HPT
  refine hKK _ _ ?_
  refine wpList_plain rfl (fun KK hKK => ?_)
  go_simp
  refine hKK _ _ ?_
  refine wpList_nil ?_
  have p1 := HP3.out.block (i := 1) rfl
  unfold ptr at p1
  go_upto_region 6 with (go_at_call 14; refine (sget_no s m vb ch cs v' A' c' Q V3 HS3.out HCS.out.1 HM3.out HV3.out HC3.out HCS.out.2.1 HCS.out.2.2).mono ?_; rintro e3 V4 ⟨rfl, k⟩)
  have HP4 := Lib.hid (HP3.out.below k)
  have HC4 := Lib.hid (HC3.out.below k)
  have HV4 := Lib.hid (HV3.out.below k)
  have HM4 := Lib.hid (map_but (S := fun _ => False) HM3.out (But.of_below k) (fun q => q))
  have HS4 := Lib.hid (HS3.out.below k)
  have HB4 := Lib.hid (HB3.out.trans (k.mono HB3.out.size))
  clear k p1 HP3 HC3 HV3 HM3 HS3 HB3
  have p1 := HP4.out.block (i := 1) rfl
  unfold ptr at p1
  go_upto_region 7 with (go_at_call 14; refine (sget_yes s m vb ch cs v' A' c' Q V4 HS4.out HCS.out.1 HM4.out HV4.out HC4.out HCS.out.2.1 HCS.out.2.2).mono ?_; rintro e4 V5 ⟨⟨u, rfl, hu⟩, k⟩)
  obtain ⟨UA, uc, rfl, _, hby, hun, _⟩ := own8_shape hu
  have HB5 := Lib.hid (HB4.out.trans (k.mono HB4.out.size))
  have HU := Lib.hid (And.intro hby hun)
  clear hu hby hun k p1 HP4 HC4 HV4 HM4 HS4 HB4
  have HAB := Lib.hid (fun (W : World) (k : Below V5.heap.size V5 W) => HU.out.1.below k)
  go_wp2_with (go_at_call 22; refine (same_one UA (some ⟨V5.heap.size, 0, none⟩) uc 1 _ (HAB.out _ ((Below.refl _ _).alloc (Nat.le_refl _) _)) (fun _ => ⟨V5.heap.size, 0, rfl, by simp, fun j u hu => by rw [Nat.zero_add]; match j, hu with | 0, hu => injection hu with hu; subst hu; exact cell97 V5⟩)).mono ?_; rintro e5 V6 ⟨rfl, k⟩)
  go_ret
  exact ⟨rfl, (HB5.out.alloc HB5.out.size _).trans (k.mono (Nat.le_trans HB5.out.size (by simp)))⟩
end Go.Proofs.YtpflbhcgkndpcaaGreatDoor

