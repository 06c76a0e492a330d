/- Stage 25: read of known, where one write is known (two like halves). -/
import Derived.Test.YtdjhpajmbddffaaNw25
import Derived.Test.YtdjhpajmbddffaaEq25
import Derived.Test.YtdjhpajmbddffaaMw25
set_option linter.unusedSimpArgs false
set_option linter.unusedVariables false
namespace Go.Proofs.Ytdjhpajmbddffaa
open Go.RowKit

theorem Kw.below {w w' : World} {g : Nat} {A : Option Addr} {c : Nat} (h : Kw w g A c) (k : Below w.heap.size w w') : Kw w' g A c :=
  ⟨(k.cell (p := ⟨g, 0, none⟩) h.lt).trans h.c0, (k.cell (p := ⟨g, 1, none⟩) h.lt).trans h.c1, (k.cell (p := ⟨g, 2, none⟩) h.lt).trans h.c2, (k.cell (p := ⟨g, 3, none⟩) h.lt).trans h.c3, (k.cell (p := ⟨g, 4, none⟩) h.lt).trans h.c4, (k.cell (p := ⟨g, 5, none⟩) h.lt).trans h.c5, (k.cell (p := ⟨g, 6, none⟩) h.lt).trans h.c6, (k.cell (p := ⟨g, 7, none⟩) h.lt).trans h.c7, (k.cell (p := ⟨g, 8, none⟩) h.lt).trans h.c8, Nat.lt_of_lt_of_le h.lt k.size, h.by_.below k, h.nil⟩
set_option maxHeartbeats 8000000 in
theorem read_no (kb r g cap b0 mc : Nat) (A : Option Addr) (c : Nat) (w : World) (h : Kw w g A c) (hk : w.cell? ⟨kb, 1, none⟩ = some (.map (some r))) (hlt : kb < w.heap.size) (hm : w.heap[r]? = some (.map #[⟨.string ⟨#[107]⟩, .slice (some ⟨g, 0, none⟩) 1 cap, b0⟩] mc)) :
    Calls Try.prog 21 #[.pointer (some ⟨kb, 0, none⟩), .string ⟨#[107]⟩, .agg #[.int .i64 6, .int .i64 0], .bool false, .slice none 0 0] w fun e w' => e = .returned (.bool false) ∧ Below w.heap.size w w' := by
  have HH := Lib.hid h
  have HLT := Lib.hid hlt

  clear h
  go_enter Try.func21, Try.ntmps21
  go_upto_region 1 with fail
  obtain ⟨V0, hV0⟩ : ∃ V0, ((w.alloc (.cells #[.int .i64 6, .int .i64 0] 32)).alloc (.cells #[.slice none 0 0] 33)) = V0 := ⟨_, rfl⟩
  have k0 : Below w.heap.size w V0 := by rw [← hV0]; exact ((Below.refl _ _).alloc (Nat.le_refl _) _).alloc (by simp) _
  have HB7 : Hid (w.heap.size + 1 < V0.heap.size) := Lib.hid (by rw [← hV0]; simp)
  have b0c : V0.cell? ⟨w.heap.size, 0, none⟩ = some (.int .i64 6) := by rw [← hV0]; simp
  have b1c : V0.cell? ⟨w.heap.size, 1, none⟩ = some (.int .i64 0) := by rw [← hV0]; simp
  have d0 : V0.cell? ⟨w.heap.size + 1, 0, none⟩ = some (.slice none 0 0) := by rw [← hV0]; simp
  replace hk := (k0.cell (p := ⟨kb, 1, none⟩) HLT.out).trans hk
  replace hm := map_but (S := fun _ => False) hm (But.of_below k0) (fun h => h)
  rw [hV0]
  have HK0 := Lib.hid k0
  have HB6 : Hid (w.heap.size < V0.heap.size) := Lib.hid (Nat.lt_of_succ_lt HB7.out)
  have HL0 : Hid (kb < V0.heap.size) := Lib.hid (Nat.lt_of_lt_of_le HLT.out k0.size)
  clear hV0 k0 hlt
  generalize hb5 : w.heap.size = b5 at *
  refine wp_region_held_drew (S := fun w' => w'.cell? ⟨kb, 1, none⟩ = some (.map (some r)) ∧ w'.heap[r]? = some (.map #[⟨.string ⟨#[107]⟩, .slice (some ⟨g, 0, none⟩) 1 cap, b0⟩] mc) ∧ w'.cell? ⟨b5, 0, none⟩ = some (.int .i64 6) ∧ w'.cell? ⟨b5, 1, none⟩ = some (.int .i64 0)) (by kernel_rfl) ?_ (fun hHeld => ?_)
  · exact ⟨hk, hm, b0c, b1c⟩
  have k1 : Below V0.heap.size V0 V0.drew := (Below.refl _ _).drew
  obtain ⟨V1, hV1⟩ : ∃ V1, V0.drew = V1 := ⟨_, rfl⟩
  rw [hV1] at k1 hHeld ⊢
  clear hV1
  replace hk := (k1.cell (p := ⟨kb, 1, none⟩) HL0.out).trans hk
  replace hm := map_but (S := fun _ => False) hm (But.of_below k1) (fun h => h)
  replace b0c := (k1.cell (p := ⟨b5, 0, none⟩) HB6.out).trans b0c
  replace b1c := (k1.cell (p := ⟨b5, 1, none⟩) HB6.out).trans b1c
  replace d0 := (k1.cell (p := ⟨b5 + 1, 0, none⟩) HB7.out).trans d0
  have HL1 := Lib.hid (Nat.lt_of_lt_of_le HL0.out k1.size)
  have HB61 := Lib.hid (Nat.lt_of_lt_of_le HB6.out k1.size)
  have HB71 := Lib.hid (Nat.lt_of_lt_of_le HB7.out k1.size)
  have HK1 := Lib.hid (HK0.out.trans (k1.mono (hb5 ▸ HK0.out.size)))
  clear k1
  have HN := Lib.hid (newest_one g cap A c V1 (HH.out.below (hb5 ▸ HK1.out)))
  refine tk9 0 ?_
  refine tk9 1 ?_
  refine tk9 2 ?_
  refine tk9 3 ?_
  refine tk9 4 ?_
  refine tk9 5 (hy := look_y (by rfl) 62 (.tmp 17) (.tmp 18) false rfl (.map (some r)) (.string ⟨#[107]⟩) (.slice (some ⟨g, 0, none⟩) 1 cap) rfl rfl (fun w' hw => look_one w' r mc b0 _ _ hw.2.1)) ?_
  refine tk9 6 ?_
  refine tk9 7 ?_
  refine wpAnyH_ready (rs := [8]) (by kernel_rfl) (by simp) ?_
  refine AllReadyH.cons rfl (fun K hK => ?_) (AllReadyH.nil)
  go_simp
  (go_at_call 36; refine HN.out.mono ?_; rintro e2 V2 ⟨⟨g2, cap2, A2, c2, rfl, hr2, hy2⟩, k2⟩)
  replace hk := (k2.cell (p := ⟨kb, 1, none⟩) HL1.out).trans hk
  replace hm := map_but (S := fun _ => False) hm (But.of_below k2) (fun h => h)
  replace b0c := (k2.cell (p := ⟨b5, 0, none⟩) HB61.out).trans b0c
  replace b1c := (k2.cell (p := ⟨b5, 1, none⟩) HB61.out).trans b1c
  replace d0 := (k2.cell (p := ⟨b5 + 1, 0, none⟩) HB71.out).trans d0
  have HL2 := Lib.hid (Nat.lt_of_lt_of_le HL1.out k2.size)
  have HB62 := Lib.hid (Nat.lt_of_lt_of_le HB61.out k2.size)
  have HB72 := Lib.hid (Nat.lt_of_lt_of_le HB71.out k2.size)
  have HK2 := Lib.hid (HK1.out.trans (k2.mono (hb5 ▸ HK1.out.size)))
  have HY2 := Lib.hid hy2
  have r20 := hr2.c0
  clear k2 hy2 hr2 HN
  (try dsimp only)
  refine hK.out _ _ ?_ (fun hHeld => ?_)
  · exact ⟨hk, hm, b0c, b1c⟩
  clear hK K
  (try simp only [Act.put, List.setIfInBounds_toArray, List.set_cons_zero, List.set_cons_succ, List.getElem_toArray, List.getElem_cons_succ, List.getElem_cons_zero])
  refine tk9 9 ?_
  refine tk9 10 ?_
  refine tk9 11 ?_
  refine tk9 12 ?_
  refine tk9 13 ?_
  refine wpAnyH_done (by kernel_rfl) ?_ _
  clear hHeld
  go_wp2_with fail
  go_ret
  subst hb5
  exact ⟨rfl, HK2.out⟩
set_option maxHeartbeats 8000000 in
theorem read_yes (kb r g cap b0 mc : Nat) (A : Option Addr) (c : Nat) (A' : Option Addr) (c' : Nat) (w : World) (h : Kw w g A c) (hk : w.cell? ⟨kb, 1, none⟩ = some (.map (some r))) (hlt : kb < w.heap.size) (hm : w.heap[r]? = some (.map #[⟨.string ⟨#[107]⟩, .slice (some ⟨g, 0, none⟩) 1 cap, b0⟩] mc)) (hA : ByL w A' [97]) :
    Calls Try.prog 21 #[.pointer (some ⟨kb, 0, none⟩), .string ⟨#[107]⟩, .agg #[.int .i64 6, .int .i64 0], .bool true, .slice A' 1 c'] w fun e w' => e = .returned (.bool true) ∧ Below w.heap.size w w' := by
  have HH := Lib.hid h
  have HLT := Lib.hid hlt
  have HA := Lib.hid hA
  clear h hA
  go_enter Try.func21, Try.ntmps21
  go_upto_region 1 with fail
  obtain ⟨V0, hV0⟩ : ∃ V0, ((w.alloc (.cells #[.int .i64 6, .int .i64 0] 32)).alloc (.cells #[.slice A' 1 c'] 33)) = V0 := ⟨_, rfl⟩
  have k0 : Below w.heap.size w V0 := by rw [← hV0]; exact ((Below.refl _ _).alloc (Nat.le_refl _) _).alloc (by simp) _
  have HB7 : Hid (w.heap.size + 1 < V0.heap.size) := Lib.hid (by rw [← hV0]; simp)
  have b0c : V0.cell? ⟨w.heap.size, 0, none⟩ = some (.int .i64 6) := by rw [← hV0]; simp
  have b1c : V0.cell? ⟨w.heap.size, 1, none⟩ = some (.int .i64 0) := by rw [← hV0]; simp
  have d0 : V0.cell? ⟨w.heap.size + 1, 0, none⟩ = some (.slice A' 1 c') := by rw [← hV0]; simp
  replace hk := (k0.cell (p := ⟨kb, 1, none⟩) HLT.out).trans hk
  replace hm := map_but (S := fun _ => False) hm (But.of_below k0) (fun h => h)
  rw [hV0]
  have HK0 := Lib.hid k0
  have HB6 : Hid (w.heap.size < V0.heap.size) := Lib.hid (Nat.lt_of_succ_lt HB7.out)
  have HL0 : Hid (kb < V0.heap.size) := Lib.hid (Nat.lt_of_lt_of_le HLT.out k0.size)
  clear hV0 k0 hlt
  generalize hb5 : w.heap.size = b5 at *
  refine wp_region_held_drew (S := fun w' => w'.cell? ⟨kb, 1, none⟩ = some (.map (some r)) ∧ w'.heap[r]? = some (.map #[⟨.string ⟨#[107]⟩, .slice (some ⟨g, 0, none⟩) 1 cap, b0⟩] mc) ∧ w'.cell? ⟨b5, 0, none⟩ = some (.int .i64 6) ∧ w'.cell? ⟨b5, 1, none⟩ = some (.int .i64 0)) (by kernel_rfl) ?_ (fun hHeld => ?_)
  · exact ⟨hk, hm, b0c, b1c⟩
  have k1 : Below V0.heap.size V0 V0.drew := (Below.refl _ _).drew
  obtain ⟨V1, hV1⟩ : ∃ V1, V0.drew = V1 := ⟨_, rfl⟩
  rw [hV1] at k1 hHeld ⊢
  clear hV1
  replace hk := (k1.cell (p := ⟨kb, 1, none⟩) HL0.out).trans hk
  replace hm := map_but (S := fun _ => False) hm (But.of_below k1) (fun h => h)
  replace b0c := (k1.cell (p := ⟨b5, 0, none⟩) HB6.out).trans b0c
  replace b1c := (k1.cell (p := ⟨b5, 1, none⟩) HB6.out).trans b1c
  replace d0 := (k1.cell (p := ⟨b5 + 1, 0, none⟩) HB7.out).trans d0
  have HL1 := Lib.hid (Nat.lt_of_lt_of_le HL0.out k1.size)
  have HB61 := Lib.hid (Nat.lt_of_lt_of_le HB6.out k1.size)
  have HB71 := Lib.hid (Nat.lt_of_lt_of_le HB7.out k1.size)
  have HK1 := Lib.hid (HK0.out.trans (k1.mono (hb5 ▸ HK0.out.size)))
  clear k1
  have HN := Lib.hid (newest_one g cap A c V1 (HH.out.below (hb5 ▸ HK1.out)))
  refine tk9 0 ?_
  refine tk9 1 ?_
  refine tk9 2 ?_
  refine tk9 3 ?_
  refine tk9 4 ?_
  refine tk9 5 (hy := look_y (by rfl) 62 (.tmp 17) (.tmp 18) false rfl (.map (some r)) (.string ⟨#[107]⟩) (.slice (some ⟨g, 0, none⟩) 1 cap) rfl rfl (fun w' hw => look_one w' r mc b0 _ _ hw.2.1)) ?_
  refine tk9 6 ?_
  refine tk9 7 ?_
  refine wpAnyH_ready (rs := [8]) (by kernel_rfl) (by simp) ?_
  refine AllReadyH.cons rfl (fun K hK => ?_) (AllReadyH.nil)
  go_simp
  (go_at_call 36; refine HN.out.mono ?_; rintro e2 V2 ⟨⟨g2, cap2, A2, c2, rfl, hr2, hy2⟩, k2⟩)
  replace hk := (k2.cell (p := ⟨kb, 1, none⟩) HL1.out).trans hk
  replace hm := map_but (S := fun _ => False) hm (But.of_below k2) (fun h => h)
  replace b0c := (k2.cell (p := ⟨b5, 0, none⟩) HB61.out).trans b0c
  replace b1c := (k2.cell (p := ⟨b5, 1, none⟩) HB61.out).trans b1c
  replace d0 := (k2.cell (p := ⟨b5 + 1, 0, none⟩) HB71.out).trans d0
  have HL2 := Lib.hid (Nat.lt_of_lt_of_le HL1.out k2.size)
  have HB62 := Lib.hid (Nat.lt_of_lt_of_le HB61.out k2.size)
  have HB72 := Lib.hid (Nat.lt_of_lt_of_le HB71.out k2.size)
  have HK2 := Lib.hid (HK1.out.trans (k2.mono (hb5 ▸ HK1.out.size)))
  have HY2 := Lib.hid hy2
  have r20 := hr2.c0
  clear k2 hy2 hr2 HN
  (try dsimp only)
  refine hK.out _ _ ?_ (fun hHeld => ?_)
  · exact ⟨hk, hm, b0c, b1c⟩
  clear hK K
  (try simp only [Act.put, List.setIfInBounds_toArray, List.set_cons_zero, List.set_cons_succ, List.getElem_toArray, List.getElem_cons_succ, List.getElem_cons_zero])
  refine tk9 9 ?_
  refine tk9 10 ?_
  refine tk9 11 ?_
  refine tk9 12 ?_
  refine tk9 13 ?_
  refine wpAnyH_done (by kernel_rfl) ?_ _
  clear hHeld
  have HCT := Lib.hid (contains_one g2 cap2 A2 A' c2 c' [97] (b5 + 1) V2 r20 d0 HY2.out (HA.out.below (hb5 ▸ HK2.out)) (by intro x hx; simp at hx; omega))
  go_wp2_with (go_at_call 37; refine HCT.out.mono ?_; rintro e3 V3 ⟨rfl, rfl⟩)
  go_ret
  subst hb5
  exact ⟨rfl, HK2.out⟩
end Go.Proofs.Ytdjhpajmbddffaa
