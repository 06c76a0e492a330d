/- Stage 16: lay of the one record (written by gen/la16.py). -/
import Derived.Test.YtpflbhcgkndpcaaGreatDoorG16g
import Derived.Great.BuildSlice
set_option linter.unusedSimpArgs false
set_option linter.unusedVariables false
namespace Go.Proofs.YtpflbhcgkndpcaaGreatDoor
open Go.RowKit

theorem bk_there_at {W : World} {b : Nat} {vs : List Value} (h : Bk W b vs) (o n : Nat) (hl : o + n ≤ vs.length) : W.there b o n := fun j hj => ⟨by
  rw [h.c (o + j) vs[o + j] (List.getElem?_eq_getElem (by omega))]
  rfl, h.fz _⟩
/-- Behind lay: what Get asks. -/
def LaOk (s m : Nat) (w w' : World) : Prop := ∃ (vb ch : Nat) (v' : Value) (A' : Option Addr) (c' : Nat) (Q : Nat → Prop) (cs : List Value), Ch Q w' ch v' [⟨vs1, A', c'⟩] ∧ (∀ i, Q i → w.heap.size ≤ i) ∧ Bk w' vb [ptr ch, .int .i64 1] ∧ w'.heap[m]? = some (.map #[⟨.string ⟨#[107]⟩, ptr vb, 0⟩] 1) ∧ Bk w' s cs ∧ cs[7]? = some (.map (some m)) ∧ cs[8]? = some (.int .i64 0) ∧ cs[9]? = some (.int .i64 0) ∧ w.heap.size ≤ vb
theorem fillN16 (n : Nat) (hn : 0 < n) (i0 : TypeInfo) (hs : i0.size = n) (z : Value) (C : List Value) (hC : C.length = n) : Instr.fill (fun i => some (i * i0.size, i0.size)) ((Array.range (1 * i0.size)).map (z.cells[· % z.cells.size]!)) [(0, .agg C.toArray)] = some C.toArray := by
  rw [hs]
  obtain ⟨r, h1, h2, h3⟩ := Great.fill_dense (s := n) hn [.agg C.toArray] 0 ((Array.range (1 * n)).map (z.cells[· % z.cells.size]!)) (by intro v hv; simp at hv; subst hv; simpa [Value.cells] using hC) (by simp)
  have hr : r = C.toArray := by
    apply Array.ext_getElem?
    intro k
    rw [h3 k]
    by_cases hk : k < n
    · rw [if_pos (by simp; omega)]
      have e1 : k / n = 0 := Nat.div_eq_of_lt hk
      have e2 : k % n = k := Nat.mod_eq_of_lt hk
      simp [e1, e2, Value.cells]
    · rw [if_neg (by simp; omega), Array.getElem?_eq_none (by simp; omega), Array.getElem?_eq_none (by simp; omega)]
  subst hr
  exact h1
theorem rec9_info : (Tryz.prog.info? 46).map (fun i => (i.zero, i.size, i.bytes)) = some (some (.agg #[.int .i64 0, .int .i64 0, .string ⟨#[]⟩, .int .i64 0, .int .i64 0, .int .i64 0, .slice none 0 0, .bool false, .int .i64 0]), 9, 96) := by kernel_rfl
set_option maxRecDepth 100000 in
set_option maxHeartbeats 8000000 in
theorem lay_first (s l d m g : Nat) (A : Option Addr) (c c1 : Nat) (w : World) (hs : Bk w s (stE d (ptr l) 1 m)) (hm : w.heap[m]? = some (.map #[] 0)) (hg : w.rangeAt g 0 (rc1 A c)) (hgl : g < w.heap.size) (hp : ByL w A [97]) (hsm : s ≠ m) (hpm : ∀ ad, A = some ad → ¬ ad.block = m) (hps : ∀ ad, A = some ad → ¬ ad.block = s) : Calls Tryz.prog 31 #[.pointer (some ⟨s, 0, none⟩), .slice (some ⟨g, 0, none⟩) 1 c1] w fun e w' => e = .returned (.tuple #[]) ∧ LaOk s m w w' ∧ But (fun i => i = s ∨ i = m) w w' := by
  obtain ⟨i0, hi0, hz0, hz1, hz2⟩ := info_parts rec9_info
  have HS := Lib.hid hs
  have HM := Lib.hid hm
  have HG := Lib.hid hg
  have HP := Lib.hid hp
  have HA := Lib.hid (And.intro hsm (And.intro hpm hps))
  have HPW := Lib.hid hp
  have HLT : Hid (s < w.heap.size ∧ m < w.heap.size) := Lib.hid ⟨hs.lt, (Array.getElem?_eq_some_iff.1 hm).1⟩
  clear hs hm hg hgl hp hsm hpm hps
  go_enter Tryz.func31, Tryz.ntmps31
  go_wp2_with fail
  refine wp_loop_rounds 2 ?_
  rw [rounds_succ]
  go_upto_region 2 with fail
  refine wp_region_lit ?_
  refine wpList_plain rfl (fun KK hKK => ?_)
  go_simp
  refine hKK _ _ ?_
  refine wpList_load_mid rfl 46 (.tmp 10) rfl g 0 (by first | rfl | simp) (rc1 A c) _ HG.out Tryz.underlying46 rfl rec_size ?_
  refine wpList_plain rfl (fun KK hKK => ?_)
  go_simp
  refine hKK _ _ ?_
  refine wpList_store_new16 rfl 46 (.tmp 5) (.tmp 11) rfl #[.int .i64 0, .int .i64 0, .string ⟨#[]⟩, .int .i64 0, .int .i64 0, .int .i64 0, .slice none 0 0, .bool false, .int .i64 0] (rc1 A c).toArray rfl rfl (by rw [rec_size]; rfl) rfl (by simp [rc1, Value.oneCell']) ?_
  refine wpList_nil ?_
  obtain ⟨V1, hV⟩ : ∃ V, w.alloc (.cells (rc1 A c).toArray 46) = V := ⟨_, rfl⟩
  have k : Below w.heap.size w V1 := by rw [← hV]; exact (Below.refl _ _).alloc (Nat.le_refl _) _
  have bx : Bk V1 w.heap.size (rc1 A c) := by rw [← hV]; exact Bk.new w (rc1 A c).toArray 46
  rw [hV]
  clear hV
  have HS1 := Lib.hid (HS.out.below k)
  have HM1 := Lib.hid (map_but (S := fun _ => False) HM.out (But.of_below k) (fun q => q))
  have HP1 := Lib.hid (HP.out.below k)
  have HX1 := Lib.hid bx
  have HU1 := Lib.hid (But.of_below (S := fun i => i = s ∨ i = m) k)
  clear k bx HS HM HG HP
  generalize hx : w.heap.size = x at *
  have HXE := Lib.hid hx
  clear hx
  have HLV := Lib.hid (layv_first s l d m A c V1 HS1.out HM1.out HP1.out HA.out.1 HA.out.2.1 HA.out.2.2)
  have HXL : Hid (x < V1.heap.size) := Lib.hid HX1.out.lt
  go_upto_region 3 with fail
  refine wp_region_lit ?_
  have x2 := HX1.out.block (i := 2) rfl
  refine wpList_plain rfl (fun KK hKK => ?_)
  go_simp
  refine hKK _ _ ?_
  refine wpList_plain rfl (fun KK hKK => ?_)
  go_simp
  refine hKK _ _ ?_
  refine wpList_plain rfl (fun KK hKK => ?_)
  go_simp
  refine hKK _ _ ?_
  refine wpList_plain rfl (fun KK hKK => ?_)
  go_simp
  refine hKK _ _ ?_
  clear x2
  refine wpList_load_mid rfl 44 (.tmp 15) rfl x 3 (by first | rfl | simp) (vc1 A c) _ (fun j u hu => by have hj : j < 6 := (List.getElem?_eq_some_iff.1 hu).1; refine HX1.out.c (3 + j) u ?_; rw [← hu]; match j, hj with | 0, _ => rfl | 1, _ => rfl | 2, _ => rfl | 3, _ => rfl | 4, _ => rfl | 5, _ => rfl) Tryz.underlying44 rfl ver_size ?_
  refine wpList_plain rfl (fun KK hKK => ?_)
  go_simp
  (go_at_call 61; refine HLV.out.mono ?_; rintro e1 V2 ⟨rfl, ⟨vb, ch, v', A', c', kg, kc, Q, q1, q2, q3, q4, q5, q6⟩, k⟩)
  have HX2 := Lib.hid (HX1.out.but k (by have := HLT.out; omega))
  have HC2 := Lib.hid q1
  have HQ := Lib.hid q2
  have HV2 := Lib.hid q3
  have HM2 := Lib.hid q4
  have HS2 := Lib.hid q5
  have HVB := Lib.hid q6
  have HU2 := Lib.hid (HU1.out.trans k (fun i _ e => e))
  clear q1 q2 q3 q4 q5 q6 k HX1 HS1 HM1 HP1 HU1 HLV
  refine hKK _ _ ?_
  refine wpList_nil ?_
  go_upto_region 4 with fail
  refine wp_region_held_drew (S := fun w' => w'.cell? ⟨x, 0, none⟩ = some (.int .i64 0) ∧ w'.cell? ⟨x, 1, none⟩ = some (.int .i64 1) ∧ w'.cell? ⟨x, 3, none⟩ = some (.int .i64 5) ∧ w'.cell? ⟨x, 4, none⟩ = some (.int .i64 0)) (by kernel_rfl) ?_ (fun hHeld => ?_)
  · exact ⟨HX2.out.block (i := 0) rfl, HX2.out.block (i := 1) rfl, HX2.out.block (i := 3) rfl, HX2.out.block (i := 4) rfl⟩
  have k : Below V2.heap.size V2 V2.drew := (Below.refl _ _).drew
  obtain ⟨V3, hV3⟩ : ∃ V, V2.drew = V := ⟨_, rfl⟩
  rw [hV3] at k hHeld ⊢
  clear hV3
  have HX3 := Lib.hid (HX2.out.below k)
  have HC3 := Lib.hid (HC2.out.below k)
  have HV3 := Lib.hid (HV2.out.below k)
  have HM3 := Lib.hid (map_but (S := fun _ => False) HM2.out (But.of_below k) (fun q => q))
  have HS3 := Lib.hid (HS2.out.below k)
  have HU3 := Lib.hid (HU2.out.next k)
  clear k HX2 HC2 HV2 HM2 HS2 HU2
  refine tk9 0 ?_
  refine tk9 1 ?_
  refine tk9 2 ?_
  refine tk9 3 ?_
  refine tk9 4 ?_
  refine tk9 5 ?_
  refine tk9 6 ?_
  refine tk9 7 ?_
  refine tk9 8 ?_
  refine tk9 9 ?_
  refine tk9 10 ?_
  refine tk9 11 ?_
  refine wpAnyH_ready (rs := [12]) (by kernel_rfl) (by simp) ?_
  refine AllReadyH.cons rfl (fun K hK => ?_) (AllReadyH.nil)
  (try rw [if_pos (by rfl)])
  refine wp_store_mid 89 (.tmp 29) (.tmp 26) rfl s 10 #[.int .i64 1, .int .i64 5, .int .i64 0] rfl rfl (bk_there_at HS3.out 10 3 (by simp [stE])) last_size (by simp [Value.oneCell']) ?_
  have bs4 := bk_sets [.int .i64 1, .int .i64 5, .int .i64 0] _ 10 _ _ HS3.out (by simp [stE])
  have ks4 : But (fun i => i = s) V3 (V3.setCells s 10 [.int .i64 1, .int .i64 5, .int .i64 0]) := But.of_only (Only.refl s V3 |>.setB _ |>.setB _ |>.setB _) rfl
  obtain ⟨cs4, hcs4⟩ : ∃ cs4, (((stE d (ptr l) 1 m).set 6 (.slice (some ⟨kg, 0, none⟩) 1 kc)).take 10 ++ [Value.int .i64 1, .int .i64 5, .int .i64 0] ++ ((stE d (ptr l) 1 m).set 6 (.slice (some ⟨kg, 0, none⟩) 1 kc)).drop (10 + ([Value.int .i64 1, .int .i64 5, .int .i64 0] : List Value).length)) = cs4 := ⟨_, rfl⟩
  have HCS : Hid (cs4[2]? = some (.int .i64 0) ∧ cs4[7]? = some (.map (some m)) ∧ cs4[8]? = some (.int .i64 0) ∧ cs4[9]? = some (.int .i64 0) ∧ cs4[25]? = some (.slice none 0 0) ∧ cs4.length = 27) := Lib.hid (by rw [← hcs4]; exact ⟨rfl, rfl, rfl, rfl, rfl, rfl⟩)
  rw [hcs4] at bs4
  obtain ⟨V4, hV⟩ : ∃ V, V3.setCells s 10 [.int .i64 1, .int .i64 5, .int .i64 0] = V := ⟨_, rfl⟩
  rw [show (#[Value.int .i64 1, .int .i64 5, .int .i64 0] : Array Value).toList = [.int .i64 1, .int .i64 5, .int .i64 0] from rfl]
  rw [hV] at bs4 ks4 ⊢
  clear hV hcs4
  have HS4 := Lib.hid bs4
  have HX4 := Lib.hid (HX3.out.but ks4 (by have := HLT.out; omega))
  have HC4 := Lib.hid (HC3.out.but ks4 (fun i hi e => by have := HQ.out i hi; have := HLT.out; have := HXL.out; omega))
  have HV4 := Lib.hid (HV3.out.but ks4 (by have := HVB.out; have := HLT.out; have := HXL.out; omega))
  have HM4 := Lib.hid (map_but HM3.out ks4 (fun e => HA.out.1 e.symm))
  have HU4 := Lib.hid (HU3.out.trans ks4 (fun i _ e => Or.inl e))
  clear bs4 ks4 HX3 HC3 HV3 HM3 HS3 HU3
  (try dsimp only)
  refine hK.out _ _ ?_ (fun hHeld => ?_)
  · exact ⟨HX4.out.block (i := 0) rfl, HX4.out.block (i := 1) rfl, HX4.out.block (i := 3) rfl, HX4.out.block (i := 4) rfl⟩
  clear hK K
  (try simp only [Act.put, List.setIfInBounds_toArray, List.set_cons_zero, List.set_cons_succ, List.getElem_toArray, List.getElem_cons_succ, List.getElem_cons_zero])
  refine wpAnyH_done (by kernel_rfl) ?_ _
  clear hHeld
  have x0 := HX4.out.block (i := 0) rfl
  have s2 := HS4.out.block HCS.out.1
  go_upto_region 5 with fail
  go_quiet (fail)
  clear x0 s2
  obtain ⟨V5, hV⟩ : ∃ V, V4.drewN nq = V := ⟨_, rfl⟩
  have k : Below V4.heap.size V4 V5 := by rw [← hV]; (repeat' (first | (with_reducible exact Below.refl _ _) | (with_reducible assumption) | (with_reducible refine Below.trans ?_ (Below.mono (by with_reducible assumption) ?_)) | (with_reducible refine Below.alloc ?_ ?_ _) | (with_reducible refine Below.setCell ?_ ?_ _) | (with_reducible refine below_drewN ?_ _) | (with_reducible refine Below.drew ?_) | go_size))
  rw [hV]
  clear hV
  have HX5 := Lib.hid (HX4.out.below k)
  have HC5 := Lib.hid (HC4.out.below k)
  have HV5 := Lib.hid (HV4.out.below k)
  have HM5 := Lib.hid (map_but (S := fun _ => False) HM4.out (But.of_below k) (fun q => q))
  have HS5 := Lib.hid (HS4.out.below k)
  have HU5 := Lib.hid (HU4.out.next k)
  clear k HX4 HC4 HV4 HM4 HS4 HU4
  go_upto_region 6 with fail
  refine wp_region_held_drew (S := fun w' => w'.rangeAt x 0 (rc1 A c)) (by kernel_rfl) ?_ (fun hHeld => ?_)
  · exact fun j u hu => by rw [Nat.zero_add]; exact HX5.out.c j u hu
  have k : Below V5.heap.size V5 V5.drew := (Below.refl _ _).drew
  obtain ⟨V6, hV6⟩ : ∃ V, V5.drew = V := ⟨_, rfl⟩
  rw [hV6] at k hHeld ⊢
  clear hV6
  have HX6 := Lib.hid (HX5.out.below k)
  have HC6 := Lib.hid (HC5.out.below k)
  have HV6 := Lib.hid (HV5.out.below k)
  have HM6 := Lib.hid (map_but (S := fun _ => False) HM5.out (But.of_below k) (fun q => q))
  have HS6 := Lib.hid (HS5.out.below k)
  have HU6 := Lib.hid (HU5.out.next k)
  clear k HX5 HC5 HV5 HM5 HS5 HU5
  refine tk9 0 ?_
  refine tk9 1 ?_
  refine tk9 2 ?_
  refine tk9 3 ?_
  refine tk9 5 (hy := yieldsIf_load_mid (by rfl) 46 (.tmp 5) rfl x 0 rfl (rc1 A c) _ (fun w' hw => hw) Tryz.underlying46 rfl rec_size) ?_
  refine wpAnyH_ready (rs := [4, 6]) (by kernel_rfl) (by simp) ?_
  refine AllReadyH.cons rfl (fun K hK => ?_) (AllReadyH.cons rfl (fun K hK => ?_) (AllReadyH.nil))
  · have s25 := HS6.out.block HCS.out.2.2.2.2.1
    go_simp
    clear s25
    (try dsimp only)
    refine hK.out _ _ ?_ (fun hHeld => ?_)
    · exact fun j u hu => by rw [Nat.zero_add]; exact HX6.out.c j u hu
    clear hK K
    (try simp only [Act.put, List.setIfInBounds_toArray, List.set_cons_zero, List.set_cons_succ, List.getElem_toArray, List.getElem_cons_succ, List.getElem_cons_zero])
    refine wpAnyH_ready (rs := [6]) (by kernel_rfl) (by simp) ?_
    refine AllReadyH.cons rfl (fun K hK => ?_) (AllReadyH.nil)
    (try rw [if_pos (by rfl)])
    go_simp
    (go_at_call 51; refine (copied_one A c V6 (HPW.out.off16 HU6.out (fun ad e q => by rcases q with q | q; exact HA.out.2.2 ad e q; exact HA.out.2.1 ad e q))).mono ?_; rintro e2 V7 ⟨⟨A2, c2, rfl⟩, k⟩)
    have HX7 := Lib.hid (HX6.out.below k)
    have HC7 := Lib.hid (HC6.out.below k)
    have HV7 := Lib.hid (HV6.out.below k)
    have HM7 := Lib.hid (map_but (S := fun _ => False) HM6.out (But.of_below k) (fun q => q))
    have HS7 := Lib.hid (HS6.out.below k)
    have HU7 := Lib.hid (HU6.out.next k)
    clear k HX6 HC6 HV6 HM6 HS6 HU6
    (try dsimp only)
    refine hK.out _ _ ?_ (fun hHeld => ?_)
    · exact fun j u hu => by rw [Nat.zero_add]; exact HX7.out.c j u hu
    clear hK K
    (try simp only [Act.put, List.setIfInBounds_toArray, List.set_cons_zero, List.set_cons_succ, List.getElem_toArray, List.getElem_cons_succ, List.getElem_cons_zero])
    refine wpAnyH_ready (rs := [7]) (by kernel_rfl) (by simp) ?_
    refine AllReadyH.cons rfl (fun K hK => ?_) (AllReadyH.nil)
    rw [if_pos (by rfl)]
    refine wp_buildSlice 26 46 1 _ rfl (rc1 A2 c2).toArray i0 _ Tryz.underlying26 hi0 hz0 (by rw [hz1]; omega) (by rw [hz1]; omega) (by rw [Array.toList_map]; exact fillN16 9 (by omega) i0 hz1 (.agg #[.int .i64 0, .int .i64 0, .string ⟨#[]⟩, .int .i64 0, .int .i64 0, .int .i64 0, .slice none 0 0, .bool false, .int .i64 0]) (rc1 A2 c2) rfl) ?_
    obtain ⟨V8, hV⟩ : ∃ V, V7.alloc (.cells (rc1 A2 c2).toArray 46) = V := ⟨_, rfl⟩
    have k : Below V7.heap.size V7 V8 := by rw [← hV]; exact (Below.refl _ _).alloc (Nat.le_refl _) _
    have bb : Bk V8 V7.heap.size (rc1 A2 c2) := by rw [← hV]; exact Bk.new V7 (rc1 A2 c2).toArray 46
    rw [hV]
    clear hV
    have HBB := Lib.hid bb
    clear bb
    have HX8 := Lib.hid (HX7.out.below k)
    have HC8 := Lib.hid (HC7.out.below k)
    have HV8 := Lib.hid (HV7.out.below k)
    have HM8 := Lib.hid (map_but (S := fun _ => False) HM7.out (But.of_below k) (fun q => q))
    have HS8 := Lib.hid (HS7.out.below k)
    have HU8 := Lib.hid (HU7.out.next k)
    clear k HX7 HC7 HV7 HM7 HS7 HU7
    generalize V7.heap.size = sb at *
    (try dsimp only)
    refine hK.out _ _ ?_ (fun hHeld => ?_)
    · exact fun j u hu => by rw [Nat.zero_add]; exact HX8.out.c j u hu
    clear hK K
    (try simp only [Act.put, List.setIfInBounds_toArray, List.set_cons_zero, List.set_cons_succ, List.getElem_toArray, List.getElem_cons_succ, List.getElem_cons_zero])
    refine wpAnyH_ready (rs := [8]) (by kernel_rfl) (by simp) ?_
    refine AllReadyH.cons rfl (fun K hK => ?_) (AllReadyH.nil)
    refine step_append_lies _ rfl (.tmp 41) (.tmp 44) _ rfl V8.heap.size 46 i0 _ 9 96 Tryz.underlying26 hi0 hz0 hz1 hz2 rfl (by decide) (.slice none 0 0) 0 [] rfl (World.ownsRow_nil _ _ _ _) ⟨sb, 0, none⟩ 1 1 (rc1 A2 c2) rfl rfl (fun j u hu => by rw [Addr.add_mid, Nat.zero_add]; exact HBB.out.c j u hu) (by simp [rc1, Value.oneCell']) (by omega) (by unfold maxLen; omega) (by omega) (Nat.le_refl _) _ rfl ?_
    intro kk ck V9 hown hg hat hlt
    have k : Below V8.heap.size V8 V9 := (Below.refl _ _).grown hg (Nat.le_refl _) (fun i hi => by cases hi)
    clear hown hg hat hlt HBB
    have HX9 := Lib.hid (HX8.out.below k)
    have HC9 := Lib.hid (HC8.out.below k)
    have HV9 := Lib.hid (HV8.out.below k)
    have HM9 := Lib.hid (map_but (S := fun _ => False) HM8.out (But.of_below k) (fun q => q))
    have HS9 := Lib.hid (HS8.out.below k)
    have HU9 := Lib.hid (HU8.out.next k)
    clear k HX8 HC8 HV8 HM8 HS8 HU8
    (try dsimp only)
    refine hK.out _ _ ?_ (fun hHeld => ?_)
    · exact fun j u hu => by rw [Nat.zero_add]; exact HX9.out.c j u hu
    clear hK K
    (try simp only [Act.put, List.setIfInBounds_toArray, List.set_cons_zero, List.set_cons_succ, List.getElem_toArray, List.getElem_cons_succ, List.getElem_cons_zero])
    refine tk9 9 ?_
    refine tk9 10 ?_
    refine wpAnyH_ready (rs := [11]) (by kernel_rfl) (by simp) ?_
    refine AllReadyH.cons rfl (fun K hK => ?_) (AllReadyH.nil)
    have s25 := HS9.out.block HCS.out.2.2.2.2.1
    have f25 := HS9.out.fz 25
    go_simp
    clear s25 f25
    obtain ⟨W9, hV⟩ : ∃ V, V9.setCell ⟨s, 25, none⟩ (.slice (some ⟨kk, 0, none⟩) 1 ck) = V := ⟨_, rfl⟩
    have k : But (fun i => i = s) V9 W9 := by rw [← hV]; exact (But.refl (fun i => i = s) V9).setCell (p := ⟨s, 25, none⟩) (fun _ => rfl) _
    have bs9 : Bk W9 s (cs4.set 25 (.slice (some ⟨kk, 0, none⟩) 1 ck)) := by rw [← hV]; exact HS9.out.set 25 (by have := HCS.out; omega) _
    rw [hV]
    clear hV
    have HXZ := Lib.hid (HX9.out.but k (by have := HLT.out; omega))
    have HFIN : Hid (LaOk s m w W9 ∧ But (fun i => i = s ∨ i = m) w W9) := Lib.hid ⟨⟨vb, ch, v', A', c', Q, _, HC9.out.but k (fun i hi e => by have := HQ.out i hi; have := HLT.out; have := HXL.out; omega), (fun i hi => by have := HQ.out i hi; have := HXL.out; have := HXE.out; omega), HV9.out.but k (by have := HVB.out; have := HLT.out; have := HXL.out; omega), map_but HM9.out k (fun e => HA.out.1 e.symm), bs9, (by rw [List.getElem?_set_ne (by decide)]; exact HCS.out.2.1), (by rw [List.getElem?_set_ne (by decide)]; exact HCS.out.2.2.1), (by rw [List.getElem?_set_ne (by decide)]; exact HCS.out.2.2.2.1), by have := HVB.out; have := HXL.out; have := HXE.out; omega⟩, HU9.out.trans k (fun i _ e => Or.inl e)⟩
    clear k bs9
    (try dsimp only)
    refine hK.out _ _ ?_ (fun hHeld => ?_)
    · exact fun j u hu => by rw [Nat.zero_add]; exact HXZ.out.c j u hu
    clear hK K
    (try simp only [Act.put, List.setIfInBounds_toArray, List.set_cons_zero, List.set_cons_succ, List.getElem_toArray, List.getElem_cons_succ, List.getElem_cons_zero])
    refine wpAnyH_done (by kernel_rfl) ?_ _
    clear hHeld
    go_wp2_with fail
    rw [rounds_succ]
    go_wp2_with fail
    go_end0
    exact ⟨rfl, HFIN.out.1, HFIN.out.2⟩
  · (try rw [if_pos (by rfl)])
    go_simp
    (go_at_call 51; refine (copied_one A c V6 (HPW.out.off16 HU6.out (fun ad e q => by rcases q with q | q; exact HA.out.2.2 ad e q; exact HA.out.2.1 ad e q))).mono ?_; rintro e2 V7 ⟨⟨A2, c2, rfl⟩, k⟩)
    have HX7 := Lib.hid (HX6.out.below k)
    have HC7 := Lib.hid (HC6.out.below k)
    have HV7 := Lib.hid (HV6.out.below k)
    have HM7 := Lib.hid (map_but (S := fun _ => False) HM6.out (But.of_below k) (fun q => q))
    have HS7 := Lib.hid (HS6.out.below k)
    have HU7 := Lib.hid (HU6.out.next k)
    clear k HX6 HC6 HV6 HM6 HS6 HU6
    (try dsimp only)
    refine hK.out _ _ ?_ (fun hHeld => ?_)
    · exact fun j u hu => by rw [Nat.zero_add]; exact HX7.out.c j u hu
    clear hK K
    (try simp only [Act.put, List.setIfInBounds_toArray, List.set_cons_zero, List.set_cons_succ, List.getElem_toArray, List.getElem_cons_succ, List.getElem_cons_zero])
    refine wpAnyH_ready (rs := [4, 7]) (by kernel_rfl) (by simp) ?_
    refine AllReadyH.cons rfl (fun K hK => ?_) (AllReadyH.cons rfl (fun K hK => ?_) (AllReadyH.nil))
    · have s25 := HS7.out.block HCS.out.2.2.2.2.1
      go_simp
      clear s25
      (try dsimp only)
      refine hK.out _ _ ?_ (fun hHeld => ?_)
      · exact fun j u hu => by rw [Nat.zero_add]; exact HX7.out.c j u hu
      clear hK K
      (try simp only [Act.put, List.setIfInBounds_toArray, List.set_cons_zero, List.set_cons_succ, List.getElem_toArray, List.getElem_cons_succ, List.getElem_cons_zero])
      refine wpAnyH_ready (rs := [7]) (by kernel_rfl) (by simp) ?_
      refine AllReadyH.cons rfl (fun K hK => ?_) (AllReadyH.nil)
      rw [if_pos (by rfl)]
      refine wp_buildSlice 26 46 1 _ rfl (rc1 A2 c2).toArray i0 _ Tryz.underlying26 hi0 hz0 (by rw [hz1]; omega) (by rw [hz1]; omega) (by rw [Array.toList_map]; exact fillN16 9 (by omega) i0 hz1 (.agg #[.int .i64 0, .int .i64 0, .string ⟨#[]⟩, .int .i64 0, .int .i64 0, .int .i64 0, .slice none 0 0, .bool false, .int .i64 0]) (rc1 A2 c2) rfl) ?_
      obtain ⟨V8, hV⟩ : ∃ V, V7.alloc (.cells (rc1 A2 c2).toArray 46) = V := ⟨_, rfl⟩
      have k : Below V7.heap.size V7 V8 := by rw [← hV]; exact (Below.refl _ _).alloc (Nat.le_refl _) _
      have bb : Bk V8 V7.heap.size (rc1 A2 c2) := by rw [← hV]; exact Bk.new V7 (rc1 A2 c2).toArray 46
      rw [hV]
      clear hV
      have HBB := Lib.hid bb
      clear bb
      have HX8 := Lib.hid (HX7.out.below k)
      have HC8 := Lib.hid (HC7.out.below k)
      have HV8 := Lib.hid (HV7.out.below k)
      have HM8 := Lib.hid (map_but (S := fun _ => False) HM7.out (But.of_below k) (fun q => q))
      have HS8 := Lib.hid (HS7.out.below k)
      have HU8 := Lib.hid (HU7.out.next k)
      clear k HX7 HC7 HV7 HM7 HS7 HU7
      generalize V7.heap.size = sb at *
      (try dsimp only)
      refine hK.out _ _ ?_ (fun hHeld => ?_)
      · exact fun j u hu => by rw [Nat.zero_add]; exact HX8.out.c j u hu
      clear hK K
      (try simp only [Act.put, List.setIfInBounds_toArray, List.set_cons_zero, List.set_cons_succ, List.getElem_toArray, List.getElem_cons_succ, List.getElem_cons_zero])
      refine wpAnyH_ready (rs := [8]) (by kernel_rfl) (by simp) ?_
      refine AllReadyH.cons rfl (fun K hK => ?_) (AllReadyH.nil)
      refine step_append_lies _ rfl (.tmp 41) (.tmp 44) _ rfl V8.heap.size 46 i0 _ 9 96 Tryz.underlying26 hi0 hz0 hz1 hz2 rfl (by decide) (.slice none 0 0) 0 [] rfl (World.ownsRow_nil _ _ _ _) ⟨sb, 0, none⟩ 1 1 (rc1 A2 c2) rfl rfl (fun j u hu => by rw [Addr.add_mid, Nat.zero_add]; exact HBB.out.c j u hu) (by simp [rc1, Value.oneCell']) (by omega) (by unfold maxLen; omega) (by omega) (Nat.le_refl _) _ rfl ?_
      intro kk ck V9 hown hg hat hlt
      have k : Below V8.heap.size V8 V9 := (Below.refl _ _).grown hg (Nat.le_refl _) (fun i hi => by cases hi)
      clear hown hg hat hlt HBB
      have HX9 := Lib.hid (HX8.out.below k)
      have HC9 := Lib.hid (HC8.out.below k)
      have HV9 := Lib.hid (HV8.out.below k)
      have HM9 := Lib.hid (map_but (S := fun _ => False) HM8.out (But.of_below k) (fun q => q))
      have HS9 := Lib.hid (HS8.out.below k)
      have HU9 := Lib.hid (HU8.out.next k)
      clear k HX8 HC8 HV8 HM8 HS8 HU8
      (try dsimp only)
      refine hK.out _ _ ?_ (fun hHeld => ?_)
      · exact fun j u hu => by rw [Nat.zero_add]; exact HX9.out.c j u hu
      clear hK K
      (try simp only [Act.put, List.setIfInBounds_toArray, List.set_cons_zero, List.set_cons_succ, List.getElem_toArray, List.getElem_cons_succ, List.getElem_cons_zero])
      refine tk9 9 ?_
      refine tk9 10 ?_
      refine wpAnyH_ready (rs := [11]) (by kernel_rfl) (by simp) ?_
      refine AllReadyH.cons rfl (fun K hK => ?_) (AllReadyH.nil)
      have s25 := HS9.out.block HCS.out.2.2.2.2.1
      have f25 := HS9.out.fz 25
      go_simp
      clear s25 f25
      obtain ⟨W9, hV⟩ : ∃ V, V9.setCell ⟨s, 25, none⟩ (.slice (some ⟨kk, 0, none⟩) 1 ck) = V := ⟨_, rfl⟩
      have k : But (fun i => i = s) V9 W9 := by rw [← hV]; exact (But.refl (fun i => i = s) V9).setCell (p := ⟨s, 25, none⟩) (fun _ => rfl) _
      have bs9 : Bk W9 s (cs4.set 25 (.slice (some ⟨kk, 0, none⟩) 1 ck)) := by rw [← hV]; exact HS9.out.set 25 (by have := HCS.out; omega) _
      rw [hV]
      clear hV
      have HXZ := Lib.hid (HX9.out.but k (by have := HLT.out; omega))
      have HFIN : Hid (LaOk s m w W9 ∧ But (fun i => i = s ∨ i = m) w W9) := Lib.hid ⟨⟨vb, ch, v', A', c', Q, _, HC9.out.but k (fun i hi e => by have := HQ.out i hi; have := HLT.out; have := HXL.out; omega), (fun i hi => by have := HQ.out i hi; have := HXL.out; have := HXE.out; omega), HV9.out.but k (by have := HVB.out; have := HLT.out; have := HXL.out; omega), map_but HM9.out k (fun e => HA.out.1 e.symm), bs9, (by rw [List.getElem?_set_ne (by decide)]; exact HCS.out.2.1), (by rw [List.getElem?_set_ne (by decide)]; exact HCS.out.2.2.1), (by rw [List.getElem?_set_ne (by decide)]; exact HCS.out.2.2.2.1), by have := HVB.out; have := HXL.out; have := HXE.out; omega⟩, HU9.out.trans k (fun i _ e => Or.inl e)⟩
      clear k bs9
      (try dsimp only)
      refine hK.out _ _ ?_ (fun hHeld => ?_)
      · exact fun j u hu => by rw [Nat.zero_add]; exact HXZ.out.c j u hu
      clear hK K
      (try simp only [Act.put, List.setIfInBounds_toArray, List.set_cons_zero, List.set_cons_succ, List.getElem_toArray, List.getElem_cons_succ, List.getElem_cons_zero])
      refine wpAnyH_done (by kernel_rfl) ?_ _
      clear hHeld
      go_wp2_with fail
      rw [rounds_succ]
      go_wp2_with fail
      go_end0
      exact ⟨rfl, HFIN.out.1, HFIN.out.2⟩
    · rw [if_pos (by rfl)]
      refine wp_buildSlice 26 46 1 _ rfl (rc1 A2 c2).toArray i0 _ Tryz.underlying26 hi0 hz0 (by rw [hz1]; omega) (by rw [hz1]; omega) (by rw [Array.toList_map]; exact fillN16 9 (by omega) i0 hz1 (.agg #[.int .i64 0, .int .i64 0, .string ⟨#[]⟩, .int .i64 0, .int .i64 0, .int .i64 0, .slice none 0 0, .bool false, .int .i64 0]) (rc1 A2 c2) rfl) ?_
      obtain ⟨V8, hV⟩ : ∃ V, V7.alloc (.cells (rc1 A2 c2).toArray 46) = V := ⟨_, rfl⟩
      have k : Below V7.heap.size V7 V8 := by rw [← hV]; exact (Below.refl _ _).alloc (Nat.le_refl _) _
      have bb : Bk V8 V7.heap.size (rc1 A2 c2) := by rw [← hV]; exact Bk.new V7 (rc1 A2 c2).toArray 46
      rw [hV]
      clear hV
      have HBB := Lib.hid bb
      clear bb
      have HX8 := Lib.hid (HX7.out.below k)
      have HC8 := Lib.hid (HC7.out.below k)
      have HV8 := Lib.hid (HV7.out.below k)
      have HM8 := Lib.hid (map_but (S := fun _ => False) HM7.out (But.of_below k) (fun q => q))
      have HS8 := Lib.hid (HS7.out.below k)
      have HU8 := Lib.hid (HU7.out.next k)
      clear k HX7 HC7 HV7 HM7 HS7 HU7
      generalize V7.heap.size = sb at *
      (try dsimp only)
      refine hK.out _ _ ?_ (fun hHeld => ?_)
      · exact fun j u hu => by rw [Nat.zero_add]; exact HX8.out.c j u hu
      clear hK K
      (try simp only [Act.put, List.setIfInBounds_toArray, List.set_cons_zero, List.set_cons_succ, List.getElem_toArray, List.getElem_cons_succ, List.getElem_cons_zero])
      refine wpAnyH_ready (rs := [4]) (by kernel_rfl) (by simp) ?_
      refine AllReadyH.cons rfl (fun K hK => ?_) (AllReadyH.nil)
      have s25 := HS8.out.block HCS.out.2.2.2.2.1
      go_simp
      clear s25
      (try dsimp only)
      refine hK.out _ _ ?_ (fun hHeld => ?_)
      · exact fun j u hu => by rw [Nat.zero_add]; exact HX8.out.c j u hu
      clear hK K
      (try simp only [Act.put, List.setIfInBounds_toArray, List.set_cons_zero, List.set_cons_succ, List.getElem_toArray, List.getElem_cons_succ, List.getElem_cons_zero])
      refine wpAnyH_ready (rs := [8]) (by kernel_rfl) (by simp) ?_
      refine AllReadyH.cons rfl (fun K hK => ?_) (AllReadyH.nil)
      refine step_append_lies _ rfl (.tmp 41) (.tmp 44) _ rfl V8.heap.size 46 i0 _ 9 96 Tryz.underlying26 hi0 hz0 hz1 hz2 rfl (by decide) (.slice none 0 0) 0 [] rfl (World.ownsRow_nil _ _ _ _) ⟨sb, 0, none⟩ 1 1 (rc1 A2 c2) rfl rfl (fun j u hu => by rw [Addr.add_mid, Nat.zero_add]; exact HBB.out.c j u hu) (by simp [rc1, Value.oneCell']) (by omega) (by unfold maxLen; omega) (by omega) (Nat.le_refl _) _ rfl ?_
      intro kk ck V9 hown hg hat hlt
      have k : Below V8.heap.size V8 V9 := (Below.refl _ _).grown hg (Nat.le_refl _) (fun i hi => by cases hi)
      clear hown hg hat hlt HBB
      have HX9 := Lib.hid (HX8.out.below k)
      have HC9 := Lib.hid (HC8.out.below k)
      have HV9 := Lib.hid (HV8.out.below k)
      have HM9 := Lib.hid (map_but (S := fun _ => False) HM8.out (But.of_below k) (fun q => q))
      have HS9 := Lib.hid (HS8.out.below k)
      have HU9 := Lib.hid (HU8.out.next k)
      clear k HX8 HC8 HV8 HM8 HS8 HU8
      (try dsimp only)
      refine hK.out _ _ ?_ (fun hHeld => ?_)
      · exact fun j u hu => by rw [Nat.zero_add]; exact HX9.out.c j u hu
      clear hK K
      (try simp only [Act.put, List.setIfInBounds_toArray, List.set_cons_zero, List.set_cons_succ, List.getElem_toArray, List.getElem_cons_succ, List.getElem_cons_zero])
      refine tk9 9 ?_
      refine tk9 10 ?_
      refine wpAnyH_ready (rs := [11]) (by kernel_rfl) (by simp) ?_
      refine AllReadyH.cons rfl (fun K hK => ?_) (AllReadyH.nil)
      have s25 := HS9.out.block HCS.out.2.2.2.2.1
      have f25 := HS9.out.fz 25
      go_simp
      clear s25 f25
      obtain ⟨W9, hV⟩ : ∃ V, V9.setCell ⟨s, 25, none⟩ (.slice (some ⟨kk, 0, none⟩) 1 ck) = V := ⟨_, rfl⟩
      have k : But (fun i => i = s) V9 W9 := by rw [← hV]; exact (But.refl (fun i => i = s) V9).setCell (p := ⟨s, 25, none⟩) (fun _ => rfl) _
      have bs9 : Bk W9 s (cs4.set 25 (.slice (some ⟨kk, 0, none⟩) 1 ck)) := by rw [← hV]; exact HS9.out.set 25 (by have := HCS.out; omega) _
      rw [hV]
      clear hV
      have HXZ := Lib.hid (HX9.out.but k (by have := HLT.out; omega))
      have HFIN : Hid (LaOk s m w W9 ∧ But (fun i => i = s ∨ i = m) w W9) := Lib.hid ⟨⟨vb, ch, v', A', c', Q, _, HC9.out.but k (fun i hi e => by have := HQ.out i hi; have := HLT.out; have := HXL.out; omega), (fun i hi => by have := HQ.out i hi; have := HXL.out; have := HXE.out; omega), HV9.out.but k (by have := HVB.out; have := HLT.out; have := HXL.out; omega), map_but HM9.out k (fun e => HA.out.1 e.symm), bs9, (by rw [List.getElem?_set_ne (by decide)]; exact HCS.out.2.1), (by rw [List.getElem?_set_ne (by decide)]; exact HCS.out.2.2.1), (by rw [List.getElem?_set_ne (by decide)]; exact HCS.out.2.2.2.1), by have := HVB.out; have := HXL.out; have := HXE.out; omega⟩, HU9.out.trans k (fun i _ e => Or.inl e)⟩
      clear k bs9
      (try dsimp only)
      refine hK.out _ _ ?_ (fun hHeld => ?_)
      · exact fun j u hu => by rw [Nat.zero_add]; exact HXZ.out.c j u hu
      clear hK K
      (try simp only [Act.put, List.setIfInBounds_toArray, List.set_cons_zero, List.set_cons_succ, List.getElem_toArray, List.getElem_cons_succ, List.getElem_cons_zero])
      refine wpAnyH_done (by kernel_rfl) ?_ _
      clear hHeld
      go_wp2_with fail
      rw [rounds_succ]
      go_wp2_with fail
      go_end0
      exact ⟨rfl, HFIN.out.1, HFIN.out.2⟩
end Go.Proofs.YtpflbhcgkndpcaaGreatDoor
