/- Stage 16: store.Open over an empty disk (written by gen/op16.py). -/
import Derived.Test.YtpflbhcgkndpcaaGreatDoorG16a
import Derived.Test.YtpflbhcgkndpcaaGreatDoorTk9
import Derived.Test.YtpflbhcgkndpcaaGreatDoorG16a
import Derived.Test.YtpflbhcgkndpcaaGreatDoorMp16
/- Stage 16: wal.Open over an empty disk. -/
set_option linter.unusedSimpArgs false
set_option linter.unusedVariables false
namespace Go.Proofs.YtpflbhcgkndpcaaGreatDoor
open Go.RowKit

theorem wopen_idle (p q : Addr) (w : World) : CallsD Tryz.prog 80 #[.pointer (some p), .pointer (some q)] .returning w fun e u' w' => e = .returned (.tuple #[]) ∧ u' = .returning ∧ w' = w := by
  refine callsD_of_wpS Tryz.func80 rfl fun c₀ cs hu => ?_
  apply wpS_seq
  apply wpS_region
  simp [wpOpsS, go_sem, recoverD, hu, Tryz.ntmps80, Exit.thenS]
  apply wpS_seq
  apply wpS_region
  simp [wpOpsS, go_sem, recoverD, hu, Exit.thenS]
  refine wpS_cond (t := false) (by simp [Act.eval, Array.replicate]) ?_
  simp only [Bool.false_eq_true, if_false]
  refine wpS_of_wp (wp_skip ?_)
  cases c₀
  simp_all [bodyPostS, results, Tryz.results80]
set_option maxRecDepth 100000 in
theorem wopen_none (d : Nat) (room : Int) (w : World) (hd : Bk w d (dkE room)) : Calls Tryz.prog 45 #[.pointer (some ⟨d, 0, none⟩), .string ⟨#[109, 48, 46]⟩] w fun e w' => (∃ l, e = .returned (.tuple #[.pointer (some ⟨l, 0, none⟩), .int .i64 0]) ∧ w.heap.size ≤ l ∧ Bk w' l (lgE d)) ∧ Below w.heap.size w w' := by
  have hmf : ∀ (fn : Fn) (first cap : Array Value) (w : World), (Instr.makeFunc fn first cap).run Tryz.prog w = .ok (.func fn first cap) w := fun _ _ _ _ => rfl
  have HD := Lib.hid hd
  clear hd
  go_enter_defers Tryz.func45, Tryz.ntmps45
  go_upto_region 5 with fail
  obtain ⟨V, hV⟩ : ∃ V, (((w.alloc (.cells #[.pointer (some ⟨w.heap.size + 1 + 1, 0, none⟩)] 86)).alloc (.cells #[.int .i64 0] 47)).alloc (.cells (lgE d).toArray 162)) = V := ⟨_, rfl⟩
  have b4 : Bk V w.heap.size [.pointer (some ⟨w.heap.size + 1 + 1, 0, none⟩)] := by
    rw [← hV]
    exact ((Bk.new w #[.pointer (some ⟨w.heap.size + 1 + 1, 0, none⟩)] 86).below ((Below.refl _ _).alloc (Nat.le_refl _) _)).below ((Below.refl _ _).alloc (Nat.le_refl _) _)
  have b5 : Bk V (w.heap.size + 1) [.int .i64 0] := by
    rw [← hV]
    have := (Bk.new (w.alloc (.cells #[.pointer (some ⟨w.heap.size + 1 + 1, 0, none⟩)] 86)) #[.int .i64 0] 47).below ((Below.refl _ _).alloc (Nat.le_refl _) (.cells (lgE d).toArray 162))
    rw [World.size_alloc] at this
    exact this
  have bl : Bk V (w.heap.size + 1 + 1) (lgE d) := by
    rw [← hV]
    have := Bk.new ((w.alloc (.cells #[.pointer (some ⟨w.heap.size + 1 + 1, 0, none⟩)] 86)).alloc (.cells #[.int .i64 0] 47)) (lgE d).toArray 162
    rw [World.size_alloc, World.size_alloc] at this
    exact this
  have kb : Below w.heap.size w V := by
    rw [← hV]
    exact (((Below.refl _ _).alloc (Nat.le_refl _) _).alloc (by simp) _).alloc (by simp; omega) _
  rw [show (((w.alloc (.cells #[.pointer (some ⟨w.heap.size + 1 + 1, 0, none⟩)] 86)).alloc (.cells #[.int .i64 0] 47)).alloc (.cells #[.pointer (some ⟨d, 0, none⟩), .string ⟨#[109, 48, 46]⟩, .slice none 0 0, .slice none 0 0, .int .i64 0, .bool false] 162)) = V from hV]
  clear hV
  have HN : Hid (w.heap.size ≠ w.heap.size + 1 ∧ w.heap.size ≠ w.heap.size + 1 + 1 ∧ w.heap.size + 1 ≠ w.heap.size + 1 + 1 ∧ w.heap.size ≤ w.heap.size ∧ w.heap.size ≤ w.heap.size + 1 ∧ w.heap.size ≤ w.heap.size + 1 + 1) := Lib.hid (by omega)
  have HDV := Lib.hid (HD.out.below kb)
  have HKB := Lib.hid kb
  clear HD kb
  generalize hr4 : w.heap.size = r4 at *
  generalize hr5 : r4 + 1 = r5 at *
  generalize hrl : r5 + 1 = l at *
  have HR := Lib.hid hr4
  clear hr4 hr5 hrl
  have H4 := Lib.hid b4
  have H5 := Lib.hid b5
  have HL := Lib.hid bl
  clear b4 b5 bl
  refine wp_region_held_drew (S := fun w' => w'.cell? ⟨r4, 0, none⟩ = some (.pointer (some ⟨l, 0, none⟩))) (by kernel_rfl) ?_ (fun hHeld => ?_)
  · exact H4.out.block (i := 0) rfl
  have kd : Below V.heap.size V V.drew := (Below.refl _ _).drew
  obtain ⟨V1, hV1⟩ : ∃ V1, V.drew = V1 := ⟨_, rfl⟩
  rw [hV1] at kd hHeld ⊢
  clear hV1
  refine tk9 0 (hQ := by exact fun c x w h => hQ2 Tryz.results45 (by decide) (by decide) _ c x w h) ?_
  refine tk9 1 (hQ := by exact fun c x w h => hQ2 Tryz.results45 (by decide) (by decide) _ c x w h) ?_
  refine wpAnyH_ready (rs := [2]) (by kernel_rfl) (by simp) ?_
  refine AllReadyH.cons rfl (fun K hK => ?_) (AllReadyH.nil)
  go_simp
  (go_at_call 83; refine (wfiles_none l d room V1 (HL.out.below kd) (HDV.out.below kd)).mono ?_; rintro e1 V2 ⟨rfl, k2⟩)
  have KK2 := kd.trans (k2.mono kd.size)
  have HK2 := Lib.hid KK2
  clear kd k2 KK2
  (try dsimp only)
  refine hK.out _ _ ?_ (fun hHeld => ?_)
  · exact (H4.out.below HK2.out).block (i := 0) rfl
  clear hK K
  (try simp only [Act.put, List.setIfInBounds_toArray, List.set_cons_zero, List.set_cons_succ, List.getElem_toArray, List.getElem_cons_succ, List.getElem_cons_zero])
  refine wpAnyH_ready (rs := [3]) (by kernel_rfl) (by simp) ?_
  refine AllReadyH.cons rfl (fun K hK => ?_) (AllReadyH.nil)
  go_simp
  (go_at_call 82; refine (wload_none l V2).mono ?_; rintro e1 V3 ⟨rfl, rfl⟩)
  (try dsimp only)
  refine hK.out _ _ ?_ (fun hHeld => ?_)
  · exact (H4.out.below HK2.out).block (i := 0) rfl
  clear hK K
  (try simp only [Act.put, List.setIfInBounds_toArray, List.set_cons_zero, List.set_cons_succ, List.getElem_toArray, List.getElem_cons_succ, List.getElem_cons_zero])
  refine wpAnyH_done (by kernel_rfl) ?_ _
  clear hHeld
  have H4' := Lib.hid (H4.out.below HK2.out)
  have H5' := Lib.hid (H5.out.below HK2.out)
  have HL' := Lib.hid (HL.out.below HK2.out)
  have HKB' : Hid (Below w.heap.size w V3) := Lib.hid (by have k := HKB.out; have s := HR.out; subst s; exact k.trans (HK2.out.mono k.size))
  clear H4 H5 HL HKB HDV HK2
  have c4 := H4'.out.block (i := 0) rfl
  have l2 := HL'.out.block (i := 2) rfl
  go_wp2_with fail
  refine wp_loop_rounds 1 ?_
  rw [rounds_succ]
  go_upto_region 11 with fail
  clear c4 l2
  refine wp_region_held_drew (S := fun w' => w'.cell? ⟨r4, 0, none⟩ = some (.pointer (some ⟨l, 0, none⟩)) ∧ w'.cell? ⟨l, 3, none⟩ = some (.slice none 0 0)) (by kernel_rfl) ?_ (fun hHeld => ?_)
  · exact ⟨H4'.out.block (i := 0) rfl, HL'.out.block (i := 3) rfl⟩
  have kd : Below V3.heap.size V3 V3.drew := (Below.refl _ _).drew
  obtain ⟨V4, hV4⟩ : ∃ V, V3.drew = V := ⟨_, rfl⟩
  rw [hV4] at kd hHeld ⊢
  clear hV4
  have J4 := Lib.hid (H4'.out.below kd)
  have J5 := Lib.hid (H5'.out.below kd)
  have JL := Lib.hid (HL'.out.below kd)
  have JB := Lib.hid (HKB'.out.trans (kd.mono HKB'.out.size))
  clear kd
  refine tk9 0 (hQ := by exact fun c x w h => hQ2 Tryz.results45 (by decide) (by decide) _ c x w h) ?_
  refine tk9 1 (hQ := by exact fun c x w h => hQ2 Tryz.results45 (by decide) (by decide) _ c x w h) ?_
  refine tk9 2 (hQ := by exact fun c x w h => hQ2 Tryz.results45 (by decide) (by decide) _ c x w h) ?_
  refine tk9 3 (hQ := by exact fun c x w h => hQ2 Tryz.results45 (by decide) (by decide) _ c x w h) ?_
  refine tk9 4 (hQ := by exact fun c x w h => hQ2 Tryz.results45 (by decide) (by decide) _ c x w h) ?_
  refine tk9 5 (hQ := by exact fun c x w h => hQ2 Tryz.results45 (by decide) (by decide) _ c x w h) ?_
  refine tk9 6 (hQ := by exact fun c x w h => hQ2 Tryz.results45 (by decide) (by decide) _ c x w h) ?_
  refine tk9 7 (hQ := by exact fun c x w h => hQ2 Tryz.results45 (by decide) (by decide) _ c x w h) ?_
  refine wpAnyH_ready (rs := [8]) (by kernel_rfl) (by simp) ?_
  refine AllReadyH.cons rfl (fun K hK => ?_) (AllReadyH.nil)
  have l4 := JL.out.block (i := 4) rfl
  have f4 := JL.out.fz 4
  go_simp
  clear l4 f4
  obtain ⟨V5, hV⟩ : ∃ V, V4.setCell ⟨l, 4, none⟩ (.int .i64 0) = V := ⟨_, rfl⟩
  have G4 : Bk V5 r4 [.pointer (some ⟨l, 0, none⟩)] := by rw [← hV]; exact J4.out.other (p := ⟨l, 4, none⟩) (fun e => HN.out.2.1 e.symm) _
  have G5 : Bk V5 r5 [.int .i64 0] := by rw [← hV]; exact J5.out.other (p := ⟨l, 4, none⟩) (fun e => HN.out.2.2.1 e.symm) _
  have GL : Bk V5 l (lgE d) := by rw [← hV]; exact JL.out.set 4 (by simp [lgE]) (.int .i64 0)
  have GB : Below w.heap.size w V5 := by rw [← hV]; exact JB.out.setCell (p := ⟨l, 4, none⟩) (by show w.heap.size ≤ l; have := HN.out; have := HR.out; omega) _
  rw [hV]
  clear hV
  (try dsimp only)
  refine hK.out _ _ ?_ (fun hHeld => ?_)
  · exact ⟨G4.block (i := 0) rfl, GL.block (i := 3) rfl⟩
  clear hK K
  (try simp only [Act.put, List.setIfInBounds_toArray, List.set_cons_zero, List.set_cons_succ, List.getElem_toArray, List.getElem_cons_succ, List.getElem_cons_zero])
  refine wpAnyH_done (by kernel_rfl) ?_ _
  clear hHeld
  have c4 := G4.block (i := 0) rfl
  have f4 := G4.fz 0
  have GD := Lib.hid (And.intro G5 (And.intro GL GB))
  have HG4 := Lib.hid G4
  clear G4 G5 GL GB
  go_upto_region 12 with fail
  refine wp_region_lit ?_
  refine wpList_plain rfl (fun KK hKK => ?_)
  go_simp
  refine hKK _ _ ?_
  refine wpList_plain rfl (fun KK hKK => ?_)
  go_simp
  refine hKK _ _ ?_
  clear c4 f4
  obtain ⟨V6, hV⟩ : ∃ V, V5.setCell ⟨r4, 0, none⟩ (.pointer (some ⟨l, 0, none⟩)) = V := ⟨_, rfl⟩
  have G4 : Bk V6 r4 [.pointer (some ⟨l, 0, none⟩)] := by rw [← hV]; exact HG4.out.set 0 (by simp) _
  have G5 : Bk V6 r5 [.int .i64 0] := by rw [← hV]; exact GD.out.1.other (p := ⟨r4, 0, none⟩) (fun e => HN.out.1 e) _
  have GL : Bk V6 l (lgE d) := by rw [← hV]; exact GD.out.2.1.other (p := ⟨r4, 0, none⟩) (fun e => HN.out.2.1 e) _
  have GB : Below w.heap.size w V6 := by rw [← hV]; exact GD.out.2.2.setCell (p := ⟨r4, 0, none⟩) (by show w.heap.size ≤ r4; have := HR.out; omega) _
  rw [hV]
  clear hV
  have c5 := G5.block (i := 0) rfl
  have f5 := G5.fz 0
  refine wpList_plain rfl (fun KK hKK => ?_)
  go_simp
  refine hKK _ _ ?_
  clear c5 f5
  refine wpList_nil ?_
  obtain ⟨V7, hV⟩ : ∃ V, V6.setCell ⟨r5, 0, none⟩ (.int .i64 0) = V := ⟨_, rfl⟩
  have E4 : Bk V7 r4 [.pointer (some ⟨l, 0, none⟩)] := by rw [← hV]; exact G4.other (p := ⟨r5, 0, none⟩) (fun e => HN.out.1 e.symm) _
  have E5 : Bk V7 r5 [.int .i64 0] := by rw [← hV]; exact G5.set 0 (by simp) _
  have EL : Bk V7 l (lgE d) := by rw [← hV]; exact GL.other (p := ⟨r5, 0, none⟩) (fun e => HN.out.2.2.1 e) _
  have EB : Below w.heap.size w V7 := by rw [← hV]; exact GB.setCell (p := ⟨r5, 0, none⟩) (by show w.heap.size ≤ r5; have := HR.out; have := HN.out; omega) _
  rw [hV]
  clear hV
  have c4 := E4.block (i := 0) rfl
  have c5 := E5.block (i := 0) rfl
  have HF := Lib.hid (And.intro EL EB)
  clear E4 E5 EL EB G4 G5 GL GB
  go_wp2_with fail
  refine leaves_cons (f := 80) (args := #[.pointer (some ⟨r4, 0, none⟩), .pointer (some ⟨r5, 0, none⟩)]) (by simp) (by simp [go_sem]) ?_
  refine (wopen_idle _ _ _).mono ?_
  rintro e u' w'' ⟨rfl, rfl, rfl⟩
  have hle : w.heap.size ≤ l := by have := HR.out; have := HN.out; omega
  simp [Leaves, settle, results, Tryz.results45, go_sem, c4, c5]
  exact ⟨⟨hle, HF.out.1⟩, HF.out.2⟩
end Go.Proofs.YtpflbhcgkndpcaaGreatDoor

/- Stage 16: store.Open over an empty disk (written by gen/op16.py). -/
namespace Go.Proofs.YtpflbhcgkndpcaaGreatDoor
open Go.RowKit

set_option maxRecDepth 100000 in
theorem replay_none (s d l m : Nat) (w : World) (hs : Bk w s (stE d (.pointer (some ⟨l, 0, none⟩)) 0 m)) (hl : Bk w l (lgE d)) : Calls Tryz.prog 46 #[.pointer (some ⟨s, 0, none⟩)] w fun e w' => e = .returned (.bool true) ∧ Bk w' s (stE d (.pointer (some ⟨l, 0, none⟩)) 0 m) ∧ But (fun i => i = s) w w' := by
  have HN := Lib.hid (wnext_none l d w hl)
  have HS := Lib.hid hs
  have c3 := hs.block (i := 3) rfl
  clear hs hl
  go_enter Tryz.func46, Tryz.ntmps46
  go_upto_region 1 with fail
  go_wp2_with (go_at_call 86; refine HN.out.mono ?_; rintro e1 w1 ⟨rfl, k1⟩; clear c3; have HS1 := Lib.hid (HS.out.below k1); have HK1 := Lib.hid k1; clear k1; have c5 := HS1.out.block (i := 5) rfl; have f5 := HS1.out.fz 5; have c4 := HS1.out.block (i := 4) rfl)
  refine wp_loop_rounds 1 ?_
  rw [rounds_succ]
  go_wp2_with fail
  go_ret
  exact ⟨rfl, HS1.out.set 5 (by simp [stE]) (.int .i64 0), (But.of_below (S := fun i => i = s) HK1.out).setCell (p := ⟨s, 5, none⟩) (fun _ => rfl) _⟩
set_option maxRecDepth 100000 in
set_option maxHeartbeats 4000000 in
theorem sopen_none (d : Nat) (room : Int) (w : World) (hd : Bk w d (dkE room)) : Calls Tryz.prog 17 #[.pointer (some ⟨d, 0, none⟩), .string ⟨#[109]⟩, .int .i64 0] w fun e w' => (∃ s l m, e = .returned (.tuple #[.pointer (some ⟨s, 0, none⟩), .int .i64 0]) ∧ Bk w' s (stE d (.pointer (some ⟨l, 0, none⟩)) 0 m) ∧ Bk w' l (lgE d) ∧ w'.heap[m]? = some (.map #[] 0) ∧ w.heap.size ≤ m ∧ m < s ∧ s < l) ∧ Below w.heap.size w w' := by
  have HD := Lib.hid hd
  clear hd
  go_enter Tryz.func17, Tryz.ntmps17
  go_upto_region 3 with fail
  refine wp_region_lit ?_
  refine wpList_plain rfl (fun KK hKK => ?_)
  go_simp
  refine hKK _ _ ?_
  refine wpList_plain rfl (fun KK hKK => ?_)
  go_simp
  refine hKK _ _ ?_
  refine wpList_plain rfl (fun KK hKK => ?_)
  go_simp
  refine hKK _ _ ?_
  refine wpList_mk rfl 87 rfl ?_
  refine wpList_plain rfl (fun KK hKK => ?_)
  go_simp
  refine hKK _ _ ?_
  refine wpList_plain rfl (fun KK hKK => ?_)
  go_simp
  refine hKK _ _ ?_
  refine wpList_plain rfl (fun KK hKK => ?_)
  go_simp
  refine hKK _ _ ?_
  refine wpList_nil ?_
  obtain ⟨V, hV⟩ : ∃ V, ((w.alloc (.map #[] 0)).alloc (.cells #[.pointer (some ⟨d, 0, none⟩), .string ⟨#[109]⟩, .int .i64 0, .pointer none, .int .i64 0, .int .i64 0, .slice none 0 0, .map (some w.heap.size), .int .i64 0, .int .i64 0, .int .i64 0, .int .i64 0, .int .i64 0, .int .i64 0, .int .i64 0, .int .i64 0, .int .i64 0, .int .i64 0, .int .i64 0, .int .i64 0, .int .i64 0, .int .i64 0, .int .i64 0, .int .i64 0, .int .i64 0, .slice none 0 0, .bool false] 92)) = V := ⟨_, rfl⟩
  have bs : Bk V (w.heap.size + 1) (stE d (.pointer none) 0 w.heap.size) := by
    rw [← hV]
    have := Bk.new (w.alloc (.map #[] 0)) (stE d (.pointer none) 0 w.heap.size).toArray 92
    rw [World.size_alloc] at this
    exact this
  have hm : V.heap[w.heap.size]? = some (.map #[] 0) := by
    rw [← hV]
    exact heap_alloc2_old w _ _
  have kb : Below w.heap.size w V := by
    rw [← hV]
    exact ((Below.refl _ _).alloc (Nat.le_refl _) _).alloc (by simp) _
  rw [hV]
  clear hV
  generalize hm0 : w.heap.size = m at *
  generalize hs0 : m + 1 = s at *
  have HR := Lib.hid (show w.heap.size = m ∧ m < s from ⟨hm0, by omega⟩)
  clear hm0 hs0
  have HD1 := Lib.hid (HD.out.below (by rw [HR.out.1]; exact kb))
  have HS := Lib.hid bs
  have HM := Lib.hid hm
  have HB := Lib.hid kb
  clear bs hm kb
  have HA := Lib.hid (fun n : ByteArray => anew_none d room n 1099511627776 V HD1.out)
  go_upto_region 5 with fail
  refine wp_region_lit ?_
  refine wpList_plain rfl (fun KK hKK => ?_)
  go_simp
  refine hKK _ _ ?_
  refine wpList_plain rfl (fun KK hKK => ?_)
  go_simp
  refine hKK _ _ ?_
  refine wpList_plain rfl (fun KK hKK => ?_)
  go_simp
  refine hKK _ _ ?_
  refine wpList_plain rfl (fun KK hKK => ?_)
  go_simp
  refine hKK _ _ ?_
  refine wpList_plain rfl (fun KK hKK => ?_)
  go_simp
  (go_at_call 40; refine (HA.out _).mono ?_; rintro e1 V1 ⟨rfl, rfl⟩)
  refine hKK _ _ ?_
  refine wpList_plain rfl (fun KK hKK => ?_)
  go_simp
  refine hKK _ _ ?_
  refine wpList_plain rfl (fun KK hKK => ?_)
  go_simp
  refine hKK _ _ ?_
  refine wpList_plain rfl (fun KK hKK => ?_)
  go_simp
  refine hKK _ _ ?_
  refine wpList_plain rfl (fun KK hKK => ?_)
  go_simp
  refine hKK _ _ ?_
  refine wpList_plain rfl (fun KK hKK => ?_)
  go_simp
  refine hKK _ _ ?_
  have c4 := HS.out.block (i := 4) rfl
  have f4 := HS.out.fz 4
  refine wpList_plain rfl (fun KK hKK => ?_)
  go_simp
  refine hKK _ _ ?_
  clear c4 f4
  refine wpList_plain rfl (fun KK hKK => ?_)
  go_simp
  refine hKK _ _ ?_
  refine wpList_nil ?_
  clear HA
  obtain ⟨V2, hV⟩ : ∃ V', V1.setCell ⟨s, 4, none⟩ (.int .i64 0) = V' := ⟨_, rfl⟩
  have k2 : But (fun i => i = s) V1 V2 := by rw [← hV]; exact (But.refl (fun i => i = s) V1).setCell (p := ⟨s, 4, none⟩) (fun _ => rfl) _
  have HS2 : Hid (Bk V2 s (stE d (.pointer none) 0 m)) := Lib.hid (by rw [← hV]; exact HS.out.set 4 (by simp [stE]) (.int .i64 0))
  rw [hV]
  clear hV
  have HSD : Hid (d < m) := Lib.hid (by have := HD.out.lt; have := HR.out.1; omega)
  have HD2 := Lib.hid (HD1.out.but k2 (by have := HSD.out; have := HR.out.2; omega))
  have HM2 := Lib.hid (map_but HM.out k2 (by have := HR.out.2; omega))
  have HB2 := Lib.hid (HB.out.trans (k2.below (fun i hi => by have := HR.out.2; omega) (HR.out.1 ▸ HB.out.size)))
  clear k2 HS HM HD1 HB HD
  have c4 := HS2.out.block (i := 4) rfl
  go_upto_region 9 with (go_at_call 41; refine (logprefix_0 s d (.pointer none) 0 m V2 HS2.out).mono ?_; rintro e1 V3 ⟨rfl, k3⟩; clear c4)
  have HS3 := Lib.hid (HS2.out.below k3)
  have HD3 := Lib.hid (HD2.out.below k3)
  have HM3 := Lib.hid (map_but (S := fun _ => False) HM2.out (But.of_below k3) (fun h => h))
  have HB3 := Lib.hid (HB2.out.trans (k3.mono (Nat.le_trans (HR.out.1 ▸ Nat.le_refl _) HB2.out.size)))
  clear k3 HS2 HD2 HM2 HB2
  go_wp2_with (go_at_call 42; refine (files_none s d (.pointer none) 0 m room ⟨#[]⟩ V3 HS3.out HD3.out).mono ?_; rintro e1 V4 ⟨rfl, k4⟩)
  have HS4 := Lib.hid (HS3.out.below k4)
  have HD4 := Lib.hid (HD3.out.below k4)
  have HM4 := Lib.hid (map_but (S := fun _ => False) HM3.out (But.of_below k4) (fun h => h))
  have HB4 := Lib.hid (HB3.out.trans (k4.mono (Nat.le_trans (HR.out.1 ▸ Nat.le_refl _) HB3.out.size)))
  clear k4 HS3 HD3 HM3 HB3
  refine wp_loop_rounds 1 ?_
  rw [rounds_succ]
  go_upto_region 17 with fail
  have HO := Lib.hid (wopen_none d room V4 HD4.out)
  refine wp_region_lit ?_
  refine wpList_plain rfl (fun KK hKK => ?_)
  go_simp
  refine hKK _ _ ?_
  refine wpList_plain rfl (fun KK hKK => ?_)
  go_simp
  refine hKK _ _ ?_
  refine wpList_plain rfl (fun KK hKK => ?_)
  go_simp
  refine hKK _ _ ?_
  refine wpList_plain rfl (fun KK hKK => ?_)
  go_simp
  (go_at_call 45; refine HO.out.mono ?_; rintro e1 V5 ⟨⟨l, rfl, hle, hbl⟩, k5⟩)
  refine hKK _ _ ?_
  have HS5 := Lib.hid (HS4.out.below k5)
  have HD5 := Lib.hid (HD4.out.below k5)
  have HM5 := Lib.hid (map_but (S := fun _ => False) HM4.out (But.of_below k5) (fun h => h))
  have HB5 := Lib.hid (HB4.out.trans (k5.mono (Nat.le_trans (HR.out.1 ▸ Nat.le_refl _) HB4.out.size)))
  have HL5 := Lib.hid hbl
  have HSL : Hid (s < l) := Lib.hid (by have := HS4.out.lt; omega)
  clear k5 HS4 HD4 HM4 HB4 hle hbl HO
  refine wpList_plain rfl (fun KK hKK => ?_)
  go_simp
  refine hKK _ _ ?_
  refine wpList_plain rfl (fun KK hKK => ?_)
  go_simp
  refine hKK _ _ ?_
  refine wpList_plain rfl (fun KK hKK => ?_)
  go_simp
  refine hKK _ _ ?_
  refine wpList_plain rfl (fun KK hKK => ?_)
  go_simp
  refine hKK _ _ ?_
  refine wpList_plain rfl (fun KK hKK => ?_)
  go_simp
  refine hKK _ _ ?_
  have c3 := HS5.out.block (i := 3) rfl
  have f3 := HS5.out.fz 3
  refine wpList_plain rfl (fun KK hKK => ?_)
  go_simp
  refine hKK _ _ ?_
  clear c3 f3
  refine wpList_plain rfl (fun KK hKK => ?_)
  go_simp
  refine hKK _ _ ?_
  refine wpList_nil ?_
  obtain ⟨V6, hV⟩ : ∃ V', V5.setCell ⟨s, 3, none⟩ (.pointer (some ⟨l, 0, none⟩)) = V' := ⟨_, rfl⟩
  have k6 : But (fun i => i = s) V5 V6 := by rw [← hV]; exact (But.refl (fun i => i = s) V5).setCell (p := ⟨s, 3, none⟩) (fun _ => rfl) _
  have HS6 : Hid (Bk V6 s (stE d (.pointer (some ⟨l, 0, none⟩)) 0 m)) := Lib.hid (by rw [← hV]; exact HS5.out.set 3 (by simp [stE]) _)
  rw [hV]
  clear hV
  have HL6 := Lib.hid (HL5.out.but k6 (by have := HSL.out; omega))
  have HM6 := Lib.hid (map_but HM5.out k6 (by have := HR.out.2; omega))
  have HB6 := Lib.hid (HB5.out.trans (k6.below (fun i hi => by have := HR.out.2; have := HR.out.1; omega) (HR.out.1 ▸ HB5.out.size)))
  clear k6 HS5 HD5 HM5 HB5 HL5
  have HP := Lib.hid (replay_none s d l m V6 HS6.out HL6.out)
  go_wp2_with (go_at_call 46; refine HP.out.mono ?_; rintro e1 V7 ⟨rfl, hs7, k7⟩)
  have HL7 := HL6.out.but k7 (by have := HSL.out; omega)
  have HM7 := map_but HM6.out k7 (by have := HR.out.2; omega)
  have HB7 := HB6.out.trans (k7.below (fun i hi => by have := HR.out.2; have := HR.out.1; omega) (HR.out.1 ▸ HB6.out.size))
  go_ret2
  exact ⟨⟨s, l, m, rfl, hs7, HL7, HM7, by have := HR.out.1; omega, HR.out.2, HSL.out⟩, by rw [HR.out.1]; exact HB7⟩
end Go.Proofs.YtpflbhcgkndpcaaGreatDoor

