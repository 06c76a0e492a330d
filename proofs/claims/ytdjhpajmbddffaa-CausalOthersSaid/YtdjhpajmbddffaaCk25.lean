/- Stage 25: Check of one Snap (test). -/
import Derived.Test.YtdjhpajmbddffaaPk25
set_option linter.unusedSimpArgs false
set_option linter.unusedVariables false
namespace Go.Proofs.Ytdjhpajmbddffaa
open Go.RowKit

set_option maxRecDepth 100000 in
set_option maxHeartbeats 8000000 in
theorem check_snap (B c : Nat) (e : Ev) (w : World) (h : RowE w B 0 [e]) (hkd : e.kd = 3) (her : e.er = 0) :
    Calls Try.prog 12 #[.slice (some ⟨B, 0, none⟩) 1 c] w fun e' w' => (∃ i, e' = .returned (.tuple #[.int .i64 i, .bool (!decide (0 ≤ cmp2 e.tm e.tc e.sm e.sc))])) ∧ Below w.heap.size w w' := by
  have HR := Lib.hid h
  have HWR := Lib.hid (fun (W : World) (k : Below w.heap.size w W) => writes_none B 0 c [e] W (h.below k) (by simp) (by intro x hx; simp at hx; subst hx; rw [hkd]; rfl))
  clear h
  obtain ⟨bb, hbb⟩ : ∃ b, decide (0 ≤ cmp2 e.tm e.tc e.sm e.sc) = b := ⟨_, rfl⟩
  rw [hbb]
  go_enter Try.func12, Try.ntmps12
  go_upto_region 1 with fail
  refine wp_region_lit ?_
  refine wpList_mk rfl 62 rfl ?_
  refine wpList_mk rfl 63 rfl ?_
  refine wpList_plain rfl (fun KK hKK => ?_)
  go_simp
  refine hKK _ _ ?_
  refine wpList_plain rfl (fun KK hKK => ?_)
  go_simp
  refine hKK _ _ ?_
  refine wpList_plain rfl (fun KK hKK => ?_)
  go_simp
  refine hKK _ _ ?_
  refine wpList_nil ?_
  obtain ⟨V0, hV0⟩ : ∃ V, (((w.alloc (.map #[] 0)).alloc (.map #[] 0)).alloc (.cells #[.slice none 0 0, .map (some w.heap.size), .map (some (w.heap.size + 1))] 66)) = V := ⟨_, rfl⟩
  have hb0 : Below w.heap.size w V0 := by rw [← hV0]; exact (((Below.refl _ _).alloc (Nat.le_refl _) _).alloc (by simp) _).alloc (by simp; omega) _
  have hp0 : Pk (w.heap.size + 1 + 1) w.heap.size (w.heap.size + 1) V0 (.slice none 0 0) (.map #[] 0) (.map #[] 0) := by
    rw [← hV0]
    exact pk_new w _
  rw [hV0]
  clear hV0
  have N := Lib.hid (show w.heap.size ≤ w.heap.size ∧ w.heap.size ≤ w.heap.size + 1 ∧ w.heap.size ≤ w.heap.size + 1 + 1 ∧ w.heap.size + 1 + 1 ≠ w.heap.size ∧ w.heap.size + 1 + 1 ≠ w.heap.size + 1 ∧ w.heap.size ≠ w.heap.size + 1 by omega)
  have HB0 := Lib.hid hb0
  clear hb0
  obtain ⟨n0, hn0⟩ : ∃ n, w.heap.size = n := ⟨_, rfl⟩
  rw [hn0] at hp0 N ⊢
  generalize hkb : n0 + 1 + 1 = kb at *
  generalize hr2 : n0 + 1 = r2 at *
  have HN0 := Lib.hid hn0
  clear hkb hr2 hn0
  have HP0 := Lib.hid hp0
  clear hp0
  go_wp2_with (go_at_call 7; refine (HWR.out _ HB0.out).mono ?_; rintro e1 V1 ⟨rfl, k1⟩; have HP1 := Lib.hid (HP0.out.below k1); have c0 := HP1.out.c0; have HB1 := Lib.hid (HB0.out.trans (k1.mono HB0.out.size)); clear k1)
  refine wp_loop_rounds 2 ?_
  rw [rounds_succ]
  go_wp2_with (go_at_call 16; refine (sort_0 none 0 _).mono ?_; rintro e1 w1 ⟨rfl, rfl⟩)
  clear c0
  refine wp_loop_rounds 2 ?_
  rw [rounds_succ]
  have hrg := Ev.range (HR.out.below HB1.out) (show ([e] : List Ev)[0]? = some e from rfl)
  obtain ⟨Y, hY⟩ : ∃ Y : List Value, (e).cs = Y := ⟨_, rfl⟩
  rw [hY] at hrg
  have HSZ : Hid (Y.length = 18) := Lib.hid (by rw [← hY]; rfl)
  have hone : Y.toArray.all (·.oneCell') = true := by rw [← hY]; exact Ev.one _
  have HY := Lib.hid hY
  clear hY
  go_upto_region 12 with fail
  refine wp_region_lit ?_
  refine wpList_plain rfl (fun KK hKK => ?_)
  go_simp
  refine hKK _ _ ?_
  refine wpList_plain rfl (fun KK hKK => ?_)
  go_simp
  refine hKK _ _ ?_
  refine wpList_load_mid rfl 47 (.tmp 54) rfl B (0 + 0 * 18) (by first | rfl | simp) Y _ hrg Try.underlying47 rfl (by rw [HSZ.out, ev_info]) ?_
  refine wpList_plain rfl (fun KK hKK => ?_)
  go_simp
  refine hKK _ _ ?_
  refine wpList_plain rfl (fun KK hKK => ?_)
  go_simp
  refine hKK _ _ ?_
  refine wpList_store_new25 rfl 47 (.tmp 8) (.tmp 55) rfl evZ Y.toArray rfl rfl (by rw [ev_info, List.size_toArray, HSZ.out]) (by rw [show Y.toArray.size = 18 from (List.size_toArray ..).trans HSZ.out]; rfl) hone ?_
  refine wpList_nil ?_
  obtain ⟨V2, hV⟩ : ∃ V, V1.alloc (.cells Y.toArray 47) = V := ⟨_, rfl⟩
  have rx : V2.rangeAt V1.heap.size 0 Y := by rw [← hV]; exact range_new _ _ _
  have k2 : Below V1.heap.size V1 V2 := by rw [← hV]; exact (Below.refl _ _).alloc (Nat.le_refl _) _
  have y11 : V2.cell? ⟨V1.heap.size, 11, none⟩ = some (.int .i64 0) := rx 11 _ (by rw [← HY.out]; simp [Ev.cs, her])
  rw [hV]
  clear hV hrg hone
  have HP2 := Lib.hid (HP1.out.below k2)
  have HB2 := Lib.hid (HB1.out.trans (k2.mono HB1.out.size))
  clear k2
  generalize V1.heap.size = x at *
  go_upto_region 13 with fail
  refine wp_region_lit ?_
  refine wpList_plain rfl (fun KK hKK => ?_)
  go_simp
  refine hKK _ _ ?_
  refine wpList_plain rfl (fun KK hKK => ?_)
  go_simp
  refine hKK _ _ ?_
  refine wpList_plain rfl (fun KK hKK => ?_)
  go_simp
  refine hKK _ _ ?_
  refine wpList_plain rfl (fun KK hKK => ?_)
  go_simp
  refine hKK _ _ ?_
  refine wpList_plain rfl (fun KK hKK => ?_)
  go_simp
  refine hKK _ _ ?_
  refine wpList_step (fun KK hKK => ?_)
  rw [if_pos (by rfl)]
  refine wp_load_mid 47 (.tmp 8) rfl x 0 rfl Y _ rx Try.underlying47 rfl (by rw [HSZ.out, ev_info]) ?_
  refine hKK _ _ ?_
  have HCO := could_snap kb r2 0 e V2 hkd HP2.out.c2 HP2.out.lt HP2.out.h2 N.out.2.2.2.2.1
  rw [HY.out, hbb] at HCO
  have HCC := Lib.hid HCO
  clear HCO rx y11
  refine wpList_step (fun KK hKK => ?_)
  rw [if_pos (by rfl)]
  go_simp
  (go_at_call 17; refine HCC.out.mono ?_; rintro e3 V3 ⟨rfl, k2, hm2⟩)
  have HB3 := Lib.hid (HB2.out.trans (k2.below (fun k hk => by have := N.out; have := HN0.out; omega) HB2.out.size))
  clear k2 hm2
  refine hKK _ _ ?_
  refine wpList_step (fun KK hKK => ?_)
  go_simp
  refine hKK _ _ ?_
  refine wpList_step (fun KK hKK => ?_)
  go_simp
  refine hKK _ _ ?_
  refine wpList_nil ?_
  clear HCC HSZ HY
  cases bb
  · go_wp2_with fail
    go_ret2
    exact ⟨⟨0, by simp⟩, HB3.out⟩
  · go_wp2_with fail
    rw [rounds_succ]
    go_wp2_with fail
    go_ret2
    exact ⟨⟨0, by simp⟩, HB3.out⟩
set_option maxRecDepth 100000 in
set_option maxHeartbeats 8000000 in
theorem check_put (B c : Nat) (e : Ev) (p : List Int) (w : World) (h : RowE w B 0 [e]) (hkd : e.kd = 1) (her : e.er = 0) (hvl : e.vl = p.length) (hp : ByL w e.A p) (hpn : e.A = none → p.length = 0) (hpl : p.length ≤ 1000) :
    Calls Try.prog 12 #[.slice (some ⟨B, 0, none⟩) 1 c] w fun e' w' => (∃ i, e' = .returned (.tuple #[.int .i64 i, .bool (!decide (0 < cmp2 e.tm e.tc e.sm e.sc))])) ∧ Below w.heap.size w w' := by
  have HR := Lib.hid h
  have HWR := Lib.hid (fun (W : World) (k : Below w.heap.size w W) => writes_one B 0 c [e] e p W (h.below k) (by simp) rfl hkd her hvl (hp.below k) hpn hpl (by intro k x hk0 hx; cases k with | zero => omega | succ k => simp at hx))
  clear h hp hpn
  obtain ⟨bb, hbb⟩ : ∃ b, decide (0 < cmp2 e.tm e.tc e.sm e.sc) = b := ⟨_, rfl⟩
  rw [hbb]
  go_enter Try.func12, Try.ntmps12
  go_upto_region 1 with fail
  refine wp_region_lit ?_
  refine wpList_mk rfl 62 rfl ?_
  refine wpList_mk rfl 63 rfl ?_
  refine wpList_plain rfl (fun KK hKK => ?_)
  go_simp
  refine hKK _ _ ?_
  refine wpList_plain rfl (fun KK hKK => ?_)
  go_simp
  refine hKK _ _ ?_
  refine wpList_plain rfl (fun KK hKK => ?_)
  go_simp
  refine hKK _ _ ?_
  refine wpList_nil ?_
  obtain ⟨V0, hV0⟩ : ∃ V, (((w.alloc (.map #[] 0)).alloc (.map #[] 0)).alloc (.cells #[.slice none 0 0, .map (some w.heap.size), .map (some (w.heap.size + 1))] 66)) = V := ⟨_, rfl⟩
  have hb0 : Below w.heap.size w V0 := by rw [← hV0]; exact (((Below.refl _ _).alloc (Nat.le_refl _) _).alloc (by simp) _).alloc (by simp; omega) _
  have hp0 : Pk (w.heap.size + 1 + 1) w.heap.size (w.heap.size + 1) V0 (.slice none 0 0) (.map #[] 0) (.map #[] 0) := by
    rw [← hV0]
    exact pk_new w _
  rw [hV0]
  clear hV0
  have N := Lib.hid (show w.heap.size ≤ w.heap.size ∧ w.heap.size ≤ w.heap.size + 1 ∧ w.heap.size ≤ w.heap.size + 1 + 1 ∧ w.heap.size + 1 + 1 ≠ w.heap.size ∧ w.heap.size + 1 + 1 ≠ w.heap.size + 1 ∧ w.heap.size ≠ w.heap.size + 1 by omega)
  have HB0 := Lib.hid hb0
  clear hb0
  obtain ⟨n0, hn0⟩ : ∃ n, w.heap.size = n := ⟨_, rfl⟩
  rw [hn0] at hp0 N ⊢
  generalize hkb : n0 + 1 + 1 = kb at *
  generalize hr2 : n0 + 1 = r2 at *
  have HN0 := Lib.hid hn0
  clear hkb hr2 hn0
  have HP0 := Lib.hid hp0
  clear hp0
  go_wp2_with (go_at_call 7; refine (HWR.out _ HB0.out).mono ?_; rintro e1 V1 ⟨⟨g, cap, A', c', rfl, hw1⟩, k1⟩; have HP1 := Lib.hid (HP0.out.below k1); have HB1 := Lib.hid (HB0.out.trans (k1.mono HB0.out.size)); have HW1 := Lib.hid hw1; clear k1 hw1)
  refine wp_loop_rounds 2 ?_
  rw [rounds_succ]
  go_upto_block 1 with fail
  go_cut [44] (fun _ wx => ∃ gk capk g2 cap2, Pk kb n0 r2 wx (.slice (some ⟨gk, 0, none⟩) 1 capk) (.map #[⟨.string e.key, .slice (some ⟨g2, 0, none⟩) 1 cap2, 0⟩] 1) (.map #[] 0) ∧ W1 V0.heap.size wx e p g2 A' c' ∧ Below w.heap.size w wx)
  case first =>
    obtain ⟨C, hC⟩ : ∃ C : List Value, C = [.int .i64 e.who, .string e.key, .int .i64 e.tm, .int .i64 e.tc, .int .i64 e.nd, .slice A' p.length c', .bool false, .int .i64 e.n, .bool false] := ⟨_, rfl⟩
    have hC9 : C.length = 9 := by rw [hC]; rfl
    have hC1 : C.toArray.all (·.oneCell') = true := by rw [hC]; simp [Value.oneCell']
    have hrg : V1.rangeAt g 0 C := by
      subst hC
      intro j u hu
      have hw := HW1.out
      rcases j with _ | _ | _ | _ | _ | _ | _ | _ | _ | j
      · cases hu; exact hw.c0
      · cases hu; exact hw.c1
      · cases hu; exact hw.c2
      · cases hu; exact hw.c3
      · cases hu; exact hw.c4
      · cases hu; exact hw.c5
      · cases hu; exact hw.c6
      · cases hu; exact hw.c7
      · cases hu; exact hw.c8
      · cases hu
    have HC := Lib.hid hC
    have HC9 := Lib.hid hC9
    clear hC
    go_upto_region 4 with fail
    refine wp_region_lit ?_
    refine wpList_plain rfl (fun KK hKK => ?_)
    go_simp
    refine hKK _ _ ?_
    refine wpList_load_mid rfl 37 (.tmp 17) rfl g 0 (by first | rfl | simp) C _ hrg Try.underlying37 rfl (by rw [HC9.out, wr_size]) ?_
    refine wpList_plain rfl (fun KK hKK => ?_)
    go_simp
    refine hKK _ _ ?_
    refine wpList_store_new25 rfl 37 (.tmp 6) (.tmp 18) rfl #[.int .i64 0, .string ⟨#[]⟩, .int .i64 0, .int .i64 0, .int .i64 0, .slice none 0 0, .bool false, .int .i64 0, .bool false] C.toArray rfl rfl (by rw [wr_size, List.size_toArray, HC9.out]) (by rw [show C.toArray.size = 9 from (List.size_toArray ..).trans HC9.out]; rfl) hC1 ?_
    refine wpList_nil ?_
    obtain ⟨V2, hV⟩ : ∃ V, V1.alloc (.cells C.toArray 37) = V := ⟨_, rfl⟩
    have rx : V2.rangeAt V1.heap.size 0 C := by rw [← hV]; exact range_new _ _ _
    have k2 : Below V1.heap.size V1 V2 := by rw [← hV]; exact (Below.refl _ _).alloc (Nat.le_refl _) _
    have lx : V1.heap.size < V2.heap.size := by rw [← hV]; simp
    have y1 : V2.cell? ⟨V1.heap.size, 1, none⟩ = some (.string e.key) := rx 1 _ (by rw [HC.out]; rfl)
    rw [hV]
    clear hV hrg hC9
    have HP2 := Lib.hid (HP1.out.below k2)
    have HB2 := Lib.hid (HB1.out.trans (k2.mono HB1.out.size))
    have HW2 := Lib.hid (HW1.out.below k2)
    have HXN : Hid (n0 ≠ V1.heap.size) := Lib.hid (Nat.ne_of_lt HP1.out.l1)
    have HX := Lib.hid (show n0 ≤ V1.heap.size ∧ kb ≠ V1.heap.size from ⟨by have := HB1.out.size; have := HN0.out; omega, by have := HP1.out.lt; omega⟩)
    clear k2
    generalize V1.heap.size = x at *
    have q1 := HP2.out.c1
    go_upto_region 5 with fail
    refine wp_region_lit ?_
    refine wpList_plain rfl (fun KK hKK => ?_)
    go_simp
    refine hKK _ _ ?_
    refine wpList_plain rfl (fun KK hKK => ?_)
    go_simp
    refine hKK _ _ ?_
    refine wpList_plain rfl (fun KK hKK => ?_)
    go_simp
    refine hKK _ _ ?_
    refine wpList_plain rfl (fun KK hKK => ?_)
    go_simp
    refine hKK _ _ ?_
    refine wpList_look rfl 62 (.tmp 20) (.tmp 22) false rfl (.map (some n0)) (.string e.key) (.slice none 0 0) rfl rfl (look_none V2 n0 0 e.key HP2.out.h1) ?_
    refine wpList_plain rfl (fun KK hKK => ?_)
    go_simp
    refine hKK _ _ ?_
    refine wpList_plain rfl (fun KK hKK => ?_)
    go_simp
    refine hKK _ _ ?_
    refine wpList_nil ?_
    clear q1
    have c0 := HP2.out.c0
    have f0 := HP2.out.f0
    obtain ⟨i0, hi0, hz0, hz1, hz2⟩ := info_parts st_string
    have HNEWS : Hid _ := Lib.hid (World.news_of_block (cs := #[.string e.key]) (t := 9) (fr := (0, 0)) (heap_alloc_new V2 (.cells #[.string e.key] 9)))
    have hrow : (V2.alloc (.cells #[.string e.key] 9)).ownsRow 0 9 1 (.slice none 0 0) 0 [] := World.ownsRow_nil _ _ _ _
    have HA2 : Hid (Below V2.heap.size V2 (V2.alloc (.cells #[.string e.key] 9))) := Lib.hid ((Below.refl _ _).alloc (Nat.le_refl _) _)
    go_upto_region 7 with (at_builtin; refine wpList_append_lies _ rfl (.tmp 27) (.tmp 30) _ rfl 0 9 i0 _ 1 16 Try.underlying64 hi0 hz0 hz1 hz2 rfl (by decide) (.slice none 0 0) 0 _ rfl hrow ⟨V2.heap.size, 0, none⟩ 1 1 [.string e.key] rfl rfl HNEWS.out (by simp [Value.oneCell']) (by omega) (by unfold maxLen; omega) (by omega) (by omega) _ rfl ?_; intro gk capk V5 hown5 hg5 hat5 hlt5; have k5 : Below V2.heap.size V2 V5 := HA2.out.trans ((grown25 hg5 rfl).mono HA2.out.size); have HP5 := Lib.hid (HP2.out.below k5); replace c0 := HP5.out.c0; replace f0 := HP5.out.f0; have HB5 := Lib.hid (HB2.out.trans (k5.mono HB2.out.size)); have HW5 := Lib.hid (HW2.out.below k5); have rx5 := range_below rx k5 lx; have lx5 := Nat.lt_of_lt_of_le lx k5.size; clear k5 hown5 hg5 hat5 hlt5)
    have k6 : Only kb V5 (V5.setCell ⟨kb, 0, none⟩ (.slice (some ⟨gk, 0, none⟩) 1 capk)) := (Only.refl _ _).setB _
    have hp6 := HP5.out.keys (K1 := .slice (some ⟨gk, 0, none⟩) 1 capk) (by have := N.out; omega) (by have := N.out; omega)
    have HB6 : Hid (Below w.heap.size w (V5.setCell ⟨kb, 0, none⟩ (.slice (some ⟨gk, 0, none⟩) 1 capk))) := Lib.hid (HB5.out.setCell (p := ⟨kb, 0, none⟩) (by show w.heap.size ≤ kb; have := N.out; have := HN0.out; omega) _)
    have HW6 := Lib.hid (HW5.out.but (S := fun i => i = kb) (But.of_only k6 rfl) (fun i hi => .inl (by have := HP0.out.lt; omega)))
    have rx6 : (V5.setCell ⟨kb, 0, none⟩ (.slice (some ⟨gk, 0, none⟩) 1 capk)).rangeAt x 0 C := fun j u hu => (k6.cell x _ lx5 (fun e => HX.out.2 e.symm)).trans (rx5 j u hu)
    have lx6 := Nat.lt_of_lt_of_le lx5 k6.size
    generalize (V5.setCell ⟨kb, 0, none⟩ (.slice (some ⟨gk, 0, none⟩) 1 capk)) = V6 at *
    have HP6 := Lib.hid hp6
    clear k6 hp6 HNEWS hrow HA2 c0 f0 rx rx5 lx lx5 y1 hz2 hz1 hz0 hi0
    have HRX6 := Lib.hid rx6
    have HLX6 := Lib.hid lx6
    clear rx6 lx6
    obtain ⟨iw, hi, hz, hs, hby⟩ := info_parts wr_info
    refine wp_region_held_drew (S := fun w' => w'.cell? ⟨kb, 1, none⟩ = some (.map (some n0)) ∧ w'.cell? ⟨x, 1, none⟩ = some (.string e.key) ∧ w'.rangeAt x 0 C) (by kernel_rfl) ?_ (fun hHeld => ?_)
    · exact ⟨HP6.out.c1, HRX6.out 1 _ (by rw [HC.out]; rfl), HRX6.out⟩
    have k7 : Below V6.heap.size V6 V6.drew := (Below.refl _ _).drew
    obtain ⟨V7, hV7⟩ : ∃ V, V6.drew = V := ⟨_, rfl⟩
    rw [hV7] at k7 hHeld ⊢
    clear hV7
    have HP7 := Lib.hid (HP6.out.below k7)
    have HW7 := Lib.hid (HW6.out.below k7)
    have HB7 := Lib.hid (HB6.out.trans (k7.mono HB6.out.size))
    have HRX7 := Lib.hid (range_below HRX6.out k7 HLX6.out)
    have HLX7 := Lib.hid (Nat.lt_of_lt_of_le HLX6.out k7.size)
    clear k7
    refine tk9 0 ?_
    refine tk9 1 ?_
    refine tk9 2 ?_
    refine tk9 3 ?_
    refine tk9 4 ?_
    refine tk9 5 ?_
    refine tk9 6 ?_
    refine tk9 7 ?_
    refine tk9 9 (hy := yieldsIf_load_mid (by rfl) 37 (.tmp 6) rfl x 0 rfl C _ (fun w' hw => hw.2.2) Try.underlying37 rfl (by rw [HC9.out, wr_size])) ?_
    refine wpAnyH_ready (rs := [8, 10]) (by kernel_rfl) (by simp) ?_
    refine AllReadyH.cons rfl (fun K hK => ?_) (AllReadyH.cons rfl (fun K hK => ?_) (AllReadyH.nil))
    · rw [if_pos (by rfl)]
      refine wp_look 62 (.tmp 38) (.tmp 40) false rfl (.map (some n0)) (.string e.key) (.slice none 0 0) rfl rfl (look_none V7 n0 0 e.key HP7.out.h1) ?_
      refine hK.out _ _ ?_ (fun hHeld => ?_)
      · exact ⟨HP7.out.c1, HRX7.out 1 _ (by rw [HC.out]; rfl), HRX7.out⟩
      clear hK K
      (try simp only [Act.put, List.setIfInBounds_toArray, List.set_cons_zero, List.set_cons_succ, List.getElem_toArray, List.getElem_cons_succ, List.getElem_cons_zero])
      refine wpAnyH_ready (rs := [10]) (by kernel_rfl) (by simp) ?_
      refine AllReadyH.cons rfl (fun K hK => ?_) (AllReadyH.nil)
      rw [if_pos (by rfl)]
      refine wp_buildSlice 24 37 1 _ rfl C.toArray iw _ Try.underlying24 hi hz (by rw [hs]; omega) (by rw [hs]; omega) (by rw [Array.toList_map]; exact fill9 iw hs (.agg #[.int .i64 0, .string ⟨#[]⟩, .int .i64 0, .int .i64 0, .int .i64 0, .slice none 0 0, .bool false, .int .i64 0, .bool false]) C HC9.out) ?_
      obtain ⟨V8, hV⟩ : ∃ V, V7.alloc (.cells C.toArray 37) = V := ⟨_, rfl⟩
      have ry : V8.rangeAt V7.heap.size 0 C := by rw [← hV]; exact range_new _ _ _
      have k8 : Below V7.heap.size V7 V8 := by rw [← hV]; exact (Below.refl _ _).alloc (Nat.le_refl _) _
      rw [hV]
      clear hV
      have HP8 := Lib.hid (HP7.out.below k8)
      have HW8 := Lib.hid (HW7.out.below k8)
      have HB8 := Lib.hid (HB7.out.trans (k8.mono HB7.out.size))
      have HRX8 := Lib.hid (range_below HRX7.out k8 HLX7.out)
      have HLX8 := Lib.hid (Nat.lt_of_lt_of_le HLX7.out k8.size)
      clear k8
      refine hK.out _ _ ?_ (fun hHeld => ?_)
      · exact ⟨HP8.out.c1, HRX8.out 1 _ (by rw [HC.out]; rfl), HRX8.out⟩
      clear hK K
      (try simp only [Act.put, List.setIfInBounds_toArray, List.set_cons_zero, List.set_cons_succ, List.getElem_toArray, List.getElem_cons_succ, List.getElem_cons_zero])
      generalize V7.heap.size = y at *
      have HRY := Lib.hid ry
      clear ry
      refine wpAnyH_ready (rs := [11]) (by kernel_rfl) (by simp) ?_
      refine AllReadyH.cons rfl (fun K hK => ?_) (AllReadyH.nil)
      have hnb : V0.heap.size ≤ V8.heap.size := by have := HW8.out.lo; have := HW8.out.lt; omega
      refine step_append_lies _ rfl (.tmp 41) (.tmp 43) _ rfl V0.heap.size 37 iw _ 9 96 Try.underlying24 hi hz hs hby rfl (by decide) (.slice none 0 0) 0 _ rfl (World.ownsRow_nil _ _ _ _) ⟨y, 0, none⟩ 1 1 C rfl (by rw [HC9.out]) (fun j u hu => by rw [Addr.add_mid]; exact HRY.out j u hu) (by rw [HC.out]; simp [Value.oneCell']) (by omega) (by unfold maxLen; omega) (by omega) hnb _ rfl ?_
      intro g2 cap2 V9 hown hg _ _
      have k9 : Below V8.heap.size V8 V9 := grown25 hg rfl
      rw [HC.out] at hown
      have hlo2 := World.ownsRow.lt hown g2 rfl
      have HG : Hid (W1 V0.heap.size V9 e p g2 A' c') := Lib.hid ⟨row_cell hown rfl, row_cell hown rfl, row_cell hown rfl, row_cell hown rfl, row_cell hown rfl, row_cell hown rfl, row_cell hown rfl, row_cell hown rfl, row_cell hown rfl, hlo2.1, hlo2.2, HW8.out.by_.below k9, HW8.out.nil, fun ad ha => ⟨(HW8.out.alo ad ha).1, Nat.lt_of_lt_of_le (HW8.out.alo ad ha).2 k9.size⟩⟩
      clear hown hg hlo2
      have HP9 := Lib.hid (HP8.out.below k9)
      have HW9 := Lib.hid (HW8.out.below k9)
      have HB9 := Lib.hid (HB8.out.trans (k9.mono HB8.out.size))
      have HRX9 := Lib.hid (range_below HRX8.out k9 HLX8.out)
      have HLX9 := Lib.hid (Nat.lt_of_lt_of_le HLX8.out k9.size)
      clear k9
      refine hK.out _ _ ?_ (fun hHeld => ?_)
      · exact ⟨HP9.out.c1, HRX9.out 1 _ (by rw [HC.out]; rfl), HRX9.out⟩
      clear hK K
      (try simp only [Act.put, List.setIfInBounds_toArray, List.set_cons_zero, List.set_cons_succ, List.getElem_toArray, List.getElem_cons_succ, List.getElem_cons_zero])
      refine wpAnyH_ready (rs := [12]) (by kernel_rfl) (by simp) ?_
      refine AllReadyH.cons rfl (fun K hK => ?_) (AllReadyH.nil)
      rw [if_pos (by rfl)]
      refine wp_upd 62 (.tmp 34) (.tmp 36) (.tmp 44) rfl (.map (some n0)) (.string e.key) (.slice (some ⟨g2, 0, none⟩) 1 cap2) rfl rfl rfl (upd_none V9 n0 0 e.key _ HP9.out.h1) ?_
      obtain ⟨V10, hV⟩ : ∃ V, setMap V9 n0 (.map #[⟨.string e.key, .slice (some ⟨g2, 0, none⟩) 1 cap2, 0⟩] (0 + 1)) = V := ⟨_, rfl⟩
      have kq : But (fun k => k = n0) V9 V10 := by rw [← hV]; exact setMap_but _ _ _
      have hm : V10.heap[n0]? = some (.map #[⟨.string e.key, .slice (some ⟨g2, 0, none⟩) 1 cap2, 0⟩] 1) := by rw [← hV]; exact setMap_at _ HP9.out.l1
      rw [hV]
      clear hV
      have hp := HP9.out.map1 kq hm (by have := N.out; omega) (by have := N.out; omega)
      have hw := HG.out.but kq (fun i hi => .inl (by have := HP0.out.l1; omega))
      have hb : Below w.heap.size w V10 := HB9.out.trans (kq.below (fun k hk => by have := N.out; have := HN0.out; omega) HB9.out.size)
      have hrx : V10.rangeAt x 0 C := fun j u hu => (kq.cell x _ HLX9.out (by have := HX.out.1; have := HP0.out.l1; have := HXN.out; omega)).trans (HRX9.out j u hu)
      refine hK.out _ _ ?_ (fun hHeld => ?_)
      · exact ⟨hp.c1, hrx 1 _ (by rw [HC.out]; rfl), hrx⟩
      clear hK K
      (try simp only [Act.put, List.setIfInBounds_toArray, List.set_cons_zero, List.set_cons_succ, List.getElem_toArray, List.getElem_cons_succ, List.getElem_cons_zero])
      refine wpAnyH_done (by kernel_rfl) ?_ _
      go_wp2_with fail
      go_meet
      exact ⟨gk, capk, g2, cap2, hp, hw, hb⟩
    · rw [if_pos (by rfl)]
      refine wp_buildSlice 24 37 1 _ rfl C.toArray iw _ Try.underlying24 hi hz (by rw [hs]; omega) (by rw [hs]; omega) (by rw [Array.toList_map]; exact fill9 iw hs (.agg #[.int .i64 0, .string ⟨#[]⟩, .int .i64 0, .int .i64 0, .int .i64 0, .slice none 0 0, .bool false, .int .i64 0, .bool false]) C HC9.out) ?_
      obtain ⟨V8, hV⟩ : ∃ V, V7.alloc (.cells C.toArray 37) = V := ⟨_, rfl⟩
      have ry : V8.rangeAt V7.heap.size 0 C := by rw [← hV]; exact range_new _ _ _
      have k8 : Below V7.heap.size V7 V8 := by rw [← hV]; exact (Below.refl _ _).alloc (Nat.le_refl _) _
      rw [hV]
      clear hV
      have HP8 := Lib.hid (HP7.out.below k8)
      have HW8 := Lib.hid (HW7.out.below k8)
      have HB8 := Lib.hid (HB7.out.trans (k8.mono HB7.out.size))
      have HRX8 := Lib.hid (range_below HRX7.out k8 HLX7.out)
      have HLX8 := Lib.hid (Nat.lt_of_lt_of_le HLX7.out k8.size)
      clear k8
      refine hK.out _ _ ?_ (fun hHeld => ?_)
      · exact ⟨HP8.out.c1, HRX8.out 1 _ (by rw [HC.out]; rfl), HRX8.out⟩
      clear hK K
      (try simp only [Act.put, List.setIfInBounds_toArray, List.set_cons_zero, List.set_cons_succ, List.getElem_toArray, List.getElem_cons_succ, List.getElem_cons_zero])
      generalize V7.heap.size = y at *
      have HRY := Lib.hid ry
      clear ry
      refine wpAnyH_ready (rs := [8]) (by kernel_rfl) (by simp) ?_
      refine AllReadyH.cons rfl (fun K hK => ?_) (AllReadyH.nil)
      rw [if_pos (by rfl)]
      refine wp_look 62 (.tmp 38) (.tmp 40) false rfl (.map (some n0)) (.string e.key) (.slice none 0 0) rfl rfl (look_none V8 n0 0 e.key HP8.out.h1) ?_
      refine hK.out _ _ ?_ (fun hHeld => ?_)
      · exact ⟨HP8.out.c1, HRX8.out 1 _ (by rw [HC.out]; rfl), HRX8.out⟩
      clear hK K
      (try simp only [Act.put, List.setIfInBounds_toArray, List.set_cons_zero, List.set_cons_succ, List.getElem_toArray, List.getElem_cons_succ, List.getElem_cons_zero])
      refine wpAnyH_ready (rs := [11]) (by kernel_rfl) (by simp) ?_
      refine AllReadyH.cons rfl (fun K hK => ?_) (AllReadyH.nil)
      have hnb : V0.heap.size ≤ V8.heap.size := by have := HW8.out.lo; have := HW8.out.lt; omega
      refine step_append_lies _ rfl (.tmp 41) (.tmp 43) _ rfl V0.heap.size 37 iw _ 9 96 Try.underlying24 hi hz hs hby rfl (by decide) (.slice none 0 0) 0 _ rfl (World.ownsRow_nil _ _ _ _) ⟨y, 0, none⟩ 1 1 C rfl (by rw [HC9.out]) (fun j u hu => by rw [Addr.add_mid]; exact HRY.out j u hu) (by rw [HC.out]; simp [Value.oneCell']) (by omega) (by unfold maxLen; omega) (by omega) hnb _ rfl ?_
      intro g2 cap2 V9 hown hg _ _
      have k9 : Below V8.heap.size V8 V9 := grown25 hg rfl
      rw [HC.out] at hown
      have hlo2 := World.ownsRow.lt hown g2 rfl
      have HG : Hid (W1 V0.heap.size V9 e p g2 A' c') := Lib.hid ⟨row_cell hown rfl, row_cell hown rfl, row_cell hown rfl, row_cell hown rfl, row_cell hown rfl, row_cell hown rfl, row_cell hown rfl, row_cell hown rfl, row_cell hown rfl, hlo2.1, hlo2.2, HW8.out.by_.below k9, HW8.out.nil, fun ad ha => ⟨(HW8.out.alo ad ha).1, Nat.lt_of_lt_of_le (HW8.out.alo ad ha).2 k9.size⟩⟩
      clear hown hg hlo2
      have HP9 := Lib.hid (HP8.out.below k9)
      have HW9 := Lib.hid (HW8.out.below k9)
      have HB9 := Lib.hid (HB8.out.trans (k9.mono HB8.out.size))
      have HRX9 := Lib.hid (range_below HRX8.out k9 HLX8.out)
      have HLX9 := Lib.hid (Nat.lt_of_lt_of_le HLX8.out k9.size)
      clear k9
      refine hK.out _ _ ?_ (fun hHeld => ?_)
      · exact ⟨HP9.out.c1, HRX9.out 1 _ (by rw [HC.out]; rfl), HRX9.out⟩
      clear hK K
      (try simp only [Act.put, List.setIfInBounds_toArray, List.set_cons_zero, List.set_cons_succ, List.getElem_toArray, List.getElem_cons_succ, List.getElem_cons_zero])
      refine wpAnyH_ready (rs := [12]) (by kernel_rfl) (by simp) ?_
      refine AllReadyH.cons rfl (fun K hK => ?_) (AllReadyH.nil)
      rw [if_pos (by rfl)]
      refine wp_upd 62 (.tmp 34) (.tmp 36) (.tmp 44) rfl (.map (some n0)) (.string e.key) (.slice (some ⟨g2, 0, none⟩) 1 cap2) rfl rfl rfl (upd_none V9 n0 0 e.key _ HP9.out.h1) ?_
      obtain ⟨V10, hV⟩ : ∃ V, setMap V9 n0 (.map #[⟨.string e.key, .slice (some ⟨g2, 0, none⟩) 1 cap2, 0⟩] (0 + 1)) = V := ⟨_, rfl⟩
      have kq : But (fun k => k = n0) V9 V10 := by rw [← hV]; exact setMap_but _ _ _
      have hm : V10.heap[n0]? = some (.map #[⟨.string e.key, .slice (some ⟨g2, 0, none⟩) 1 cap2, 0⟩] 1) := by rw [← hV]; exact setMap_at _ HP9.out.l1
      rw [hV]
      clear hV
      have hp := HP9.out.map1 kq hm (by have := N.out; omega) (by have := N.out; omega)
      have hw := HG.out.but kq (fun i hi => .inl (by have := HP0.out.l1; omega))
      have hb : Below w.heap.size w V10 := HB9.out.trans (kq.below (fun k hk => by have := N.out; have := HN0.out; omega) HB9.out.size)
      have hrx : V10.rangeAt x 0 C := fun j u hu => (kq.cell x _ HLX9.out (by have := HX.out.1; have := HP0.out.l1; have := HXN.out; omega)).trans (HRX9.out j u hu)
      refine hK.out _ _ ?_ (fun hHeld => ?_)
      · exact ⟨hp.c1, hrx 1 _ (by rw [HC.out]; rfl), hrx⟩
      clear hK K
      (try simp only [Act.put, List.setIfInBounds_toArray, List.set_cons_zero, List.set_cons_succ, List.getElem_toArray, List.getElem_cons_succ, List.getElem_cons_zero])
      refine wpAnyH_done (by kernel_rfl) ?_ _
      go_wp2_with fail
      go_meet
      exact ⟨gk, capk, g2, cap2, hp, hw, hb⟩
  case rest =>
  obtain ⟨gk, capk, g2, cap2, hp7, hw7, hb7⟩ := hcut
  generalize wc = V7 at *
  have HP7 := Lib.hid hp7
  have HW7 := Lib.hid hw7
  have HB7 := Lib.hid hb7
  clear hp7 hw7 hb7 HP1 HW1 HB1
  have c0 := HP7.out.c0
  go_wp2_with fail
  rw [rounds_succ]
  go_wp2_with (go_at_call 16; refine (sort_1 (some ⟨gk, 0, none⟩) capk _).mono ?_; rintro e1 w1 ⟨rfl, rfl⟩)
  clear c0
  refine wp_loop_rounds 2 ?_
  rw [rounds_succ]
  have hrg := Ev.range (HR.out.below HB7.out) (show ([e] : List Ev)[0]? = some e from rfl)
  obtain ⟨Y, hY⟩ : ∃ Y : List Value, (e).cs = Y := ⟨_, rfl⟩
  rw [hY] at hrg
  have HSZ : Hid (Y.length = 18) := Lib.hid (by rw [← hY]; rfl)
  have hone : Y.toArray.all (·.oneCell') = true := by rw [← hY]; exact Ev.one _
  have HY := Lib.hid hY
  clear hY
  go_upto_region 12 with fail
  refine wp_region_lit ?_
  refine wpList_plain rfl (fun KK hKK => ?_)
  go_simp
  refine hKK _ _ ?_
  refine wpList_plain rfl (fun KK hKK => ?_)
  go_simp
  refine hKK _ _ ?_
  refine wpList_load_mid rfl 47 (.tmp 54) rfl B (0 + 0 * 18) (by first | rfl | simp) Y _ hrg Try.underlying47 rfl (by rw [HSZ.out, ev_info]) ?_
  refine wpList_plain rfl (fun KK hKK => ?_)
  go_simp
  refine hKK _ _ ?_
  refine wpList_plain rfl (fun KK hKK => ?_)
  go_simp
  refine hKK _ _ ?_
  refine wpList_store_new25 rfl 47 (.tmp 8) (.tmp 55) rfl evZ Y.toArray rfl rfl (by rw [ev_info, List.size_toArray, HSZ.out]) (by rw [show Y.toArray.size = 18 from (List.size_toArray ..).trans HSZ.out]; rfl) hone ?_
  refine wpList_nil ?_
  obtain ⟨V8, hV⟩ : ∃ V, V7.alloc (.cells Y.toArray 47) = V := ⟨_, rfl⟩
  have rx : V8.rangeAt V7.heap.size 0 Y := by rw [← hV]; exact range_new _ _ _
  have k8 : Below V7.heap.size V7 V8 := by rw [← hV]; exact (Below.refl _ _).alloc (Nat.le_refl _) _
  have y11 : V8.cell? ⟨V7.heap.size, 11, none⟩ = some (.int .i64 0) := rx 11 _ (by rw [← HY.out]; simp [Ev.cs, her])
  rw [hV]
  clear hV hrg hone
  have HP8 := Lib.hid (HP7.out.below k8)
  have HB8 := Lib.hid (HB7.out.trans (k8.mono HB7.out.size))
  clear k8
  generalize V7.heap.size = x at *
  go_upto_region 13 with fail
  refine wp_region_lit ?_
  refine wpList_plain rfl (fun KK hKK => ?_)
  go_simp
  refine hKK _ _ ?_
  refine wpList_plain rfl (fun KK hKK => ?_)
  go_simp
  refine hKK _ _ ?_
  refine wpList_plain rfl (fun KK hKK => ?_)
  go_simp
  refine hKK _ _ ?_
  refine wpList_plain rfl (fun KK hKK => ?_)
  go_simp
  refine hKK _ _ ?_
  refine wpList_plain rfl (fun KK hKK => ?_)
  go_simp
  refine hKK _ _ ?_
  refine wpList_step (fun KK hKK => ?_)
  rw [if_pos (by rfl)]
  refine wp_load_mid 47 (.tmp 8) rfl x 0 rfl Y _ rx Try.underlying47 rfl (by rw [HSZ.out, ev_info]) ?_
  refine hKK _ _ ?_
  have HCO := could_put kb e V8 hkd
  rw [HY.out, hbb] at HCO
  have HCC := Lib.hid HCO
  clear HCO rx y11
  refine wpList_step (fun KK hKK => ?_)
  rw [if_pos (by rfl)]
  go_simp
  (go_at_call 17; refine HCC.out.mono ?_; rintro e9 V9 ⟨rfl, k2⟩)
  have HB9 := Lib.hid (HB8.out.trans (k2.mono HB8.out.size))
  clear k2
  refine hKK _ _ ?_
  refine wpList_step (fun KK hKK => ?_)
  go_simp
  refine hKK _ _ ?_
  refine wpList_step (fun KK hKK => ?_)
  go_simp
  refine hKK _ _ ?_
  refine wpList_nil ?_
  clear HCC HSZ HY
  cases bb
  · go_wp2_with fail
    go_ret2
    exact ⟨⟨0, by simp⟩, HB9.out⟩
  · go_wp2_with fail
    rw [rounds_succ]
    go_wp2_with fail
    go_ret2
    exact ⟨⟨0, by simp⟩, HB9.out⟩
end Go.Proofs.Ytdjhpajmbddffaa
