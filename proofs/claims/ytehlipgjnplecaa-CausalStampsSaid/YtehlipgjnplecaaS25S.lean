/- Stage 25: CausalStamps: the law's walk and the claim (written by gen/s25s.py). -/
import Derived.Test.YtehlipgjnplecaaKn25
import Derived.Test.YtehlipgjnplecaaStampArg
set_option linter.unusedSimpArgs false
set_option linter.unusedVariables false
namespace Go.Proofs.Ytehlipgjnplecaa
open Go.RowKit Go.ChangeShapes Go.WideShapes Go.ChangeAt Go.Joins

theorem row1 {w : World} {B : Nat} {e : Ev} (hb : B < w.heap.size) (h : w.rangeAt B 0 e.cs) : RowE w B 0 [e] := by
  refine ⟨hb, fun k x hk j u hu => ?_⟩
  rcases k with _ | k
  · cases hk
    have := h j u hu
    simpa using this
  · simp at hk
theorem two_cells (w : World) (x y u v : Value) (o : Obj) (t : TypeId) :
    (((w.alloc (.cells #[x, y] t)).alloc (.cells #[u, v] t)).alloc o).cell? ⟨w.heap.size, 0, none⟩ = some x ∧ (((w.alloc (.cells #[x, y] t)).alloc (.cells #[u, v] t)).alloc o).cell? ⟨w.heap.size, 1, none⟩ = some y ∧
    (((w.alloc (.cells #[x, y] t)).alloc (.cells #[u, v] t)).alloc o).cell? ⟨w.heap.size + 1, 0, none⟩ = some u ∧ (((w.alloc (.cells #[x, y] t)).alloc (.cells #[u, v] t)).alloc o).cell? ⟨w.heap.size + 1, 1, none⟩ = some v := by
  have z1 : (w.alloc (.cells #[x, y] t)).heap.size = w.heap.size + 1 := by simp
  have z2 : ((w.alloc (.cells #[x, y] t)).alloc (.cells #[u, v] t)).heap.size = w.heap.size + 1 + 1 := by simp
  have r1 := range_new w [x, y] t
  have r2 := range_new (w.alloc (.cells #[x, y] t)) [u, v] t
  have kA : Below (w.alloc (.cells #[x, y] t)).heap.size (w.alloc (.cells #[x, y] t)) ((w.alloc (.cells #[x, y] t)).alloc (.cells #[u, v] t)) := (Below.refl _ _).alloc (Nat.le_refl _) _
  have kB : Below ((w.alloc (.cells #[x, y] t)).alloc (.cells #[u, v] t)).heap.size ((w.alloc (.cells #[x, y] t)).alloc (.cells #[u, v] t)) (((w.alloc (.cells #[x, y] t)).alloc (.cells #[u, v] t)).alloc o) := (Below.refl _ _).alloc (Nat.le_refl _) _
  have r3 := range_below (range_below r1 kA (by omega)) kB (by omega)
  have r4 := range_below r2 kB (by omega)
  rw [z1] at r4
  exact ⟨r3 0 _ rfl, r3 1 _ rfl, r4 0 _ rfl, r4 1 _ rfl⟩
theorem cmp_a {a b c d : Int} (h : a < c) : cmp2 a b c d = -1 := by unfold cmp2 or2 cmp1; (repeat' split) <;> omega
theorem cmp_b {a b c d : Int} (h : a = c ∧ b < d) : cmp2 a b c d = -1 := by unfold cmp2 or2 cmp1; (repeat' split) <;> omega
theorem cmp_c {a b c d : Int} (h : a = c ∧ b = d) : cmp2 a b c d = 0 := by unfold cmp2 or2 cmp1; (repeat' split) <;> omega
theorem cmp_d {a b c d : Int} (h : a = c ∧ d < b) : cmp2 a b c d = 1 := by unfold cmp2 or2 cmp1; (repeat' split) <;> omega
theorem cmp_e {a b c d : Int} (h : c < a) : cmp2 a b c d = 1 := by unfold cmp2 or2 cmp1; (repeat' split) <;> omega
abbrev sev_put (sm sc tm tc : Int) : Ev := ⟨0, 1, 0, 0, 0, 0, sm, sc, ⟨#[107]⟩, ⟨#[]⟩, none, 0, 0, 0, 0, tm, tc, false, none, 0, 0, none, 0, 0⟩
set_option maxRecDepth 100000 in
set_option maxHeartbeats 16000000 in
theorem stamps_put (sm sc tm tc : Int) (w : World) : Calls Try.prog 5 #[.agg #[.int .i64 sm, .int .i64 sc], .agg #[.int .i64 tm, .int .i64 tc], .bool false] w fun e w' => e = .returned (.bool true) ∧ Below w.heap.size w w' := by
  have HK := Lib.hid (fun W : World => known25 W)
  obtain ⟨bb, hbb⟩ : ∃ b, decide (0 < cmp2 tm tc sm sc) = b := ⟨_, rfl⟩
  have HBB := Lib.hid hbb
  clear hbb
  go_enter Try.func5, Try.ntmps5
  go_upto_region 4 with fail
  refine wp_region_lit ?_
  refine wpList_plain rfl (fun KK hKK => ?_)
  go_simp
  refine hKK _ _ ?_
  refine wpList_plain rfl (fun KK hKK => ?_)
  go_simp
  refine hKK _ _ ?_
  refine wpList_plain rfl (fun KK hKK => ?_)
  go_simp
  refine hKK _ _ ?_
  refine wpList_plain rfl (fun KK hKK => ?_)
  go_simp
  refine hKK _ _ ?_
  refine wpList_plain rfl (fun KK hKK => ?_)
  go_simp
  refine hKK _ _ ?_
  generalize hV2 : (World.alloc (World.alloc (World.alloc w _) _) (.cells _ 41)) = V2
  have k2 : Below w.heap.size w V2 := by rw [← hV2]; exact (((Below.refl _ _).alloc (Nat.le_refl _) _).alloc (by simp) _).alloc (by simp; omega) _
  have a0 : V2.cell? ⟨w.heap.size, 0, none⟩ = some (.int .i64 sm) := by rw [← hV2]; exact (two_cells w _ _ _ _ _ _).1
  have a1 : V2.cell? ⟨w.heap.size, 1, none⟩ = some (.int .i64 sc) := by rw [← hV2]; exact (two_cells w _ _ _ _ _ _).2.1
  have b0 : V2.cell? ⟨w.heap.size + 1, 0, none⟩ = some (.int .i64 tm) := by rw [← hV2]; exact (two_cells w _ _ _ _ _ _).2.2.1
  have b1 : V2.cell? ⟨w.heap.size + 1, 1, none⟩ = some (.int .i64 tc) := by rw [← hV2]; exact (two_cells w _ _ _ _ _ _).2.2.2
  have z2 : V2.heap.size = w.heap.size + 1 + 1 + 1 := by rw [← hV2]; simp
  clear hV2
  generalize hV3 : (World.alloc V2 (.cells _ 47)) = V3
  have rg : V3.rangeAt V2.heap.size 0 (sev_put sm sc tm tc).cs := by rw [← hV3]; exact range_new V2 (sev_put sm sc tm tc).cs _
  have k3 : Below V2.heap.size V2 V3 := by rw [← hV3]; exact (Below.refl _ _).alloc (Nat.le_refl _) _
  have lb : V2.heap.size < V3.heap.size := by rw [← hV3]; simp
  clear hV3
  rw [← z2]
  have l0 : w.heap.size + 1 < V2.heap.size := by omega
  have HB3 := Lib.hid (k2.trans (k3.mono k2.size))
  replace a0 := (k3.cell (p := ⟨w.heap.size, 0, none⟩) (Nat.lt_of_succ_lt l0)).trans a0
  replace a1 := (k3.cell (p := ⟨w.heap.size, 1, none⟩) (Nat.lt_of_succ_lt l0)).trans a1
  replace b0 := (k3.cell (p := ⟨w.heap.size + 1, 0, none⟩) l0).trans b0
  replace b1 := (k3.cell (p := ⟨w.heap.size + 1, 1, none⟩) l0).trans b1
  replace l0 := Nat.lt_of_lt_of_le l0 k3.size
  clear z2 k2 k3
  generalize V2.heap.size = B at *
  have HC0 := check_put B 1 (sev_put sm sc tm tc) [] V3 (row1 lb rg) rfl rfl rfl (ByL.nil _ _) (fun _ => rfl) (by simp)
  rw [HBB.out] at HC0
  have HC := Lib.hid HC0
  clear HC0 rg lb
  refine wpList_plain rfl (fun KK hKK => ?_)
  go_simp
  (go_at_call 12; refine HC.out.mono ?_; rintro e1 V4 ⟨⟨i, rfl⟩, k4⟩)
  replace a0 := (k4.cell (p := ⟨w.heap.size, 0, none⟩) (Nat.lt_of_succ_lt l0)).trans a0
  replace a1 := (k4.cell (p := ⟨w.heap.size, 1, none⟩) (Nat.lt_of_succ_lt l0)).trans a1
  replace b0 := (k4.cell (p := ⟨w.heap.size + 1, 0, none⟩) l0).trans b0
  replace b1 := (k4.cell (p := ⟨w.heap.size + 1, 1, none⟩) l0).trans b1
  have HB4 := Lib.hid (HB3.out.trans (k4.mono HB3.out.size))
  clear k4 l0 HC
  refine hKK _ _ ?_
  refine wpList_plain rfl (fun KK hKK => ?_)
  go_simp
  refine hKK _ _ ?_
  refine wpList_plain rfl (fun KK hKK => ?_)
  go_simp
  refine hKK _ _ ?_
  refine wpList_plain rfl (fun KK hKK => ?_)
  go_simp
  refine hKK _ _ ?_
  refine wpList_plain rfl (fun KK hKK => ?_)
  go_simp
  refine hKK _ _ ?_
  refine wpList_plain rfl (fun KK hKK => ?_)
  go_simp
  refine hKK _ _ ?_
  refine wpList_nil ?_
  rcases (show tm < sm ∨ (tm = sm ∧ tc < sc) ∨ (tm = sm ∧ tc = sc) ∨ (tm = sm ∧ sc < tc) ∨ sm < tm by omega) with h | h | h | h | h
  · obtain rfl : bb = false := by rw [← HBB.out, cmp_a h]; decide
    have d1 : decide (tm < sm) = true := by simp; omega
    have e1 : (tm == sm) = false := by simp; omega
    clear h
    go_wp2_with (go_at_call 11; refine (HK.out _).mono ?_; rintro e5 V5 ⟨rfl, k5⟩)
    go_ret
    exact ⟨by first | rfl | simp, HB4.out.trans (k5.mono HB4.out.size)⟩
  · obtain rfl : bb = false := by rw [← HBB.out, cmp_b h]; decide
    have d1 : decide (tm < sm) = false := by simp; omega
    have e1 : (tm == sm) = true := by simp; omega
    have d2 : decide (tc < sc) = true := by simp; omega
    have e2 : (tc == sc) = false := by simp; omega
    clear h
    go_wp2_with (go_at_call 11; refine (HK.out _).mono ?_; rintro e5 V5 ⟨rfl, k5⟩)
    go_ret
    exact ⟨by first | rfl | simp, HB4.out.trans (k5.mono HB4.out.size)⟩
  · obtain rfl : bb = false := by rw [← HBB.out, cmp_c h]; decide
    have d1 : decide (tm < sm) = false := by simp; omega
    have e1 : (tm == sm) = true := by simp; omega
    have d2 : decide (tc < sc) = false := by simp; omega
    have e2 : (tc == sc) = true := by simp; omega
    clear h
    go_wp2_with (go_at_call 11; refine (HK.out _).mono ?_; rintro e5 V5 ⟨rfl, k5⟩)
    go_ret
    exact ⟨by first | rfl | simp, HB4.out.trans (k5.mono HB4.out.size)⟩
  · obtain rfl : bb = true := by rw [← HBB.out, cmp_d h]; decide
    have d1 : decide (tm < sm) = false := by simp; omega
    have e1 : (tm == sm) = true := by simp; omega
    have d2 : decide (tc < sc) = false := by simp; omega
    have e2 : (tc == sc) = false := by simp; omega
    clear h
    go_wp2_with (go_at_call 11; refine (HK.out _).mono ?_; rintro e5 V5 ⟨rfl, k5⟩)
    go_ret
    exact ⟨by first | rfl | simp, HB4.out.trans (k5.mono HB4.out.size)⟩
  · obtain rfl : bb = true := by rw [← HBB.out, cmp_e h]; decide
    have d1 : decide (tm < sm) = false := by simp; omega
    have e1 : (tm == sm) = false := by simp; omega
    clear h
    go_wp2_with (go_at_call 11; refine (HK.out _).mono ?_; rintro e5 V5 ⟨rfl, k5⟩)
    go_ret
    exact ⟨by first | rfl | simp, HB4.out.trans (k5.mono HB4.out.size)⟩
abbrev sev_snap (sm sc tm tc : Int) : Ev := ⟨0, 3, 0, 0, 0, 0, sm, sc, ⟨#[]⟩, ⟨#[]⟩, none, 0, 0, 0, 0, tm, tc, false, none, 0, 0, none, 0, 0⟩
set_option maxRecDepth 100000 in
set_option maxHeartbeats 16000000 in
theorem stamps_snap (sm sc tm tc : Int) (w : World) : Calls Try.prog 5 #[.agg #[.int .i64 sm, .int .i64 sc], .agg #[.int .i64 tm, .int .i64 tc], .bool true] w fun e w' => e = .returned (.bool true) ∧ Below w.heap.size w w' := by
  have HK := Lib.hid (fun W : World => known25 W)
  obtain ⟨bb, hbb⟩ : ∃ b, decide (0 ≤ cmp2 tm tc sm sc) = b := ⟨_, rfl⟩
  have HBB := Lib.hid hbb
  clear hbb
  go_enter Try.func5, Try.ntmps5
  go_upto_region 4 with fail
  refine wp_region_lit ?_
  refine wpList_plain rfl (fun KK hKK => ?_)
  go_simp
  refine hKK _ _ ?_
  refine wpList_plain rfl (fun KK hKK => ?_)
  go_simp
  refine hKK _ _ ?_
  refine wpList_plain rfl (fun KK hKK => ?_)
  go_simp
  refine hKK _ _ ?_
  refine wpList_plain rfl (fun KK hKK => ?_)
  go_simp
  refine hKK _ _ ?_
  refine wpList_plain rfl (fun KK hKK => ?_)
  go_simp
  refine hKK _ _ ?_
  generalize hV2 : (World.alloc (World.alloc (World.alloc w _) _) (.cells _ 41)) = V2
  have k2 : Below w.heap.size w V2 := by rw [← hV2]; exact (((Below.refl _ _).alloc (Nat.le_refl _) _).alloc (by simp) _).alloc (by simp; omega) _
  have a0 : V2.cell? ⟨w.heap.size, 0, none⟩ = some (.int .i64 sm) := by rw [← hV2]; exact (two_cells w _ _ _ _ _ _).1
  have a1 : V2.cell? ⟨w.heap.size, 1, none⟩ = some (.int .i64 sc) := by rw [← hV2]; exact (two_cells w _ _ _ _ _ _).2.1
  have b0 : V2.cell? ⟨w.heap.size + 1, 0, none⟩ = some (.int .i64 tm) := by rw [← hV2]; exact (two_cells w _ _ _ _ _ _).2.2.1
  have b1 : V2.cell? ⟨w.heap.size + 1, 1, none⟩ = some (.int .i64 tc) := by rw [← hV2]; exact (two_cells w _ _ _ _ _ _).2.2.2
  have z2 : V2.heap.size = w.heap.size + 1 + 1 + 1 := by rw [← hV2]; simp
  clear hV2
  generalize hV3 : (World.alloc V2 (.cells _ 47)) = V3
  have rg : V3.rangeAt V2.heap.size 0 (sev_snap sm sc tm tc).cs := by rw [← hV3]; exact range_new V2 (sev_snap sm sc tm tc).cs _
  have k3 : Below V2.heap.size V2 V3 := by rw [← hV3]; exact (Below.refl _ _).alloc (Nat.le_refl _) _
  have lb : V2.heap.size < V3.heap.size := by rw [← hV3]; simp
  clear hV3
  rw [← z2]
  have l0 : w.heap.size + 1 < V2.heap.size := by omega
  have HB3 := Lib.hid (k2.trans (k3.mono k2.size))
  replace a0 := (k3.cell (p := ⟨w.heap.size, 0, none⟩) (Nat.lt_of_succ_lt l0)).trans a0
  replace a1 := (k3.cell (p := ⟨w.heap.size, 1, none⟩) (Nat.lt_of_succ_lt l0)).trans a1
  replace b0 := (k3.cell (p := ⟨w.heap.size + 1, 0, none⟩) l0).trans b0
  replace b1 := (k3.cell (p := ⟨w.heap.size + 1, 1, none⟩) l0).trans b1
  replace l0 := Nat.lt_of_lt_of_le l0 k3.size
  clear z2 k2 k3
  generalize V2.heap.size = B at *
  have HC0 := check_snap B 1 (sev_snap sm sc tm tc) V3 (row1 lb rg) rfl rfl
  rw [HBB.out] at HC0
  have HC := Lib.hid HC0
  clear HC0 rg lb
  refine wpList_plain rfl (fun KK hKK => ?_)
  go_simp
  (go_at_call 12; refine HC.out.mono ?_; rintro e1 V4 ⟨⟨i, rfl⟩, k4⟩)
  replace a0 := (k4.cell (p := ⟨w.heap.size, 0, none⟩) (Nat.lt_of_succ_lt l0)).trans a0
  replace a1 := (k4.cell (p := ⟨w.heap.size, 1, none⟩) (Nat.lt_of_succ_lt l0)).trans a1
  replace b0 := (k4.cell (p := ⟨w.heap.size + 1, 0, none⟩) l0).trans b0
  replace b1 := (k4.cell (p := ⟨w.heap.size + 1, 1, none⟩) l0).trans b1
  have HB4 := Lib.hid (HB3.out.trans (k4.mono HB3.out.size))
  clear k4 l0 HC
  refine hKK _ _ ?_
  refine wpList_plain rfl (fun KK hKK => ?_)
  go_simp
  refine hKK _ _ ?_
  refine wpList_plain rfl (fun KK hKK => ?_)
  go_simp
  refine hKK _ _ ?_
  refine wpList_plain rfl (fun KK hKK => ?_)
  go_simp
  refine hKK _ _ ?_
  refine wpList_plain rfl (fun KK hKK => ?_)
  go_simp
  refine hKK _ _ ?_
  refine wpList_plain rfl (fun KK hKK => ?_)
  go_simp
  refine hKK _ _ ?_
  refine wpList_nil ?_
  rcases (show tm < sm ∨ (tm = sm ∧ tc < sc) ∨ (tm = sm ∧ tc = sc) ∨ (tm = sm ∧ sc < tc) ∨ sm < tm by omega) with h | h | h | h | h
  · obtain rfl : bb = false := by rw [← HBB.out, cmp_a h]; decide
    have d1 : decide (tm < sm) = true := by simp; omega
    have e1 : (tm == sm) = false := by simp; omega
    clear h
    go_wp2_with (go_at_call 11; refine (HK.out _).mono ?_; rintro e5 V5 ⟨rfl, k5⟩)
    go_ret
    exact ⟨by first | rfl | simp, HB4.out.trans (k5.mono HB4.out.size)⟩
  · obtain rfl : bb = false := by rw [← HBB.out, cmp_b h]; decide
    have d1 : decide (tm < sm) = false := by simp; omega
    have e1 : (tm == sm) = true := by simp; omega
    have d2 : decide (tc < sc) = true := by simp; omega
    have e2 : (tc == sc) = false := by simp; omega
    clear h
    go_wp2_with (go_at_call 11; refine (HK.out _).mono ?_; rintro e5 V5 ⟨rfl, k5⟩)
    go_ret
    exact ⟨by first | rfl | simp, HB4.out.trans (k5.mono HB4.out.size)⟩
  · obtain rfl : bb = true := by rw [← HBB.out, cmp_c h]; decide
    have d1 : decide (tm < sm) = false := by simp; omega
    have e1 : (tm == sm) = true := by simp; omega
    have d2 : decide (tc < sc) = false := by simp; omega
    have e2 : (tc == sc) = true := by simp; omega
    clear h
    go_wp2_with (go_at_call 11; refine (HK.out _).mono ?_; rintro e5 V5 ⟨rfl, k5⟩)
    go_ret
    exact ⟨by first | rfl | simp, HB4.out.trans (k5.mono HB4.out.size)⟩
  · obtain rfl : bb = true := by rw [← HBB.out, cmp_d h]; decide
    have d1 : decide (tm < sm) = false := by simp; omega
    have e1 : (tm == sm) = true := by simp; omega
    have d2 : decide (tc < sc) = false := by simp; omega
    have e2 : (tc == sc) = false := by simp; omega
    clear h
    go_wp2_with (go_at_call 11; refine (HK.out _).mono ?_; rintro e5 V5 ⟨rfl, k5⟩)
    go_ret
    exact ⟨by first | rfl | simp, HB4.out.trans (k5.mono HB4.out.size)⟩
  · obtain rfl : bb = true := by rw [← HBB.out, cmp_e h]; decide
    have d1 : decide (tm < sm) = false := by simp; omega
    have e1 : (tm == sm) = false := by simp; omega
    clear h
    go_wp2_with (go_at_call 11; refine (HK.out _).mono ?_; rintro e5 V5 ⟨rfl, k5⟩)
    go_ret
    exact ⟨by first | rfl | simp, HB4.out.trans (k5.mono HB4.out.size)⟩
theorem stamps_all (sm sc tm tc : Int) (sn : Bool) (w : World) : Calls Try.prog 5 #[.agg #[.int .i64 sm, .int .i64 sc], .agg #[.int .i64 tm, .int .i64 tc], .bool sn] w fun e w' => e = .returned (.bool true) ∧ Below w.heap.size w w' := by
  cases sn
  · exact stamps_put sm sc tm tc w
  · exact stamps_snap sm sc tm tc w
set_option maxRecDepth 100000 in
theorem causalStamps_lifted (os : Os) (started : os.Started) (H : Type) (enc : TypeId × Value → H) :
    ReturnsInHanded {} Try.checked os 5 .any (Rows.causalStampsSpec.pre6 enc Try.prog Try.f5 Rows.causalStampsRow.domain false) (Rows.causalStampsSpec.post enc Try.prog Try.f5 false true false false) := by
  refine returnsInHanded_of_change_sized (C := Try.checked) law_own started (by kernel_rfl) Try.func5
    (ChangeSpec.witness6 (enc := enc) (C := Try.checked) false ⟨#[], #[.agg #[.int .i64 0, .int .i64 0], .agg #[.int .i64 0, .int .i64 0], .bool false], []⟩ 8 (by kernel_rfl) (by kernel_rfl) (by kernel_rfl) (by kernel_rfl)) ?_
  intro W base args ds gs before hval0 hW hcnd hsz0 _
  have hval : ∀ (j : Nat) t v, Try.f5.params[j]? = some t → args[j]? = some v → Value.okWide Try.prog W .any base t v := hval0
  have hsz : (DataW.weightsEach Try.prog (Try.f5.params.toList ++ Rows.causalStampsSpec.plain.varTypes Try.prog) (ds ++ gs)).all (· ≤ reachBytes) = true := hsz0
  have hW' := hW
  obtain ⟨p, q, hA0, hV, rfl, hfz, hnd⟩ := hW
  have hA : DataW.TrodAll enc Try.prog W 0 (fun _ => true) true Try.f5.params.toList args.toList ds p := hA0
  rw [Try.params5] at hA hval hsz
  have hsame : (Rows.causalStampsSpec.fn H (ds ++ gs)).results = [.lit (.bool true)] ∧ (Rows.causalStampsSpec.fn H (ds ++ gs)).args = ds ∧ (Rows.causalStampsSpec.fn H (ds ++ gs)).vars = [] → ∀ W', Below W.heap.size W W' → Rows.causalStampsSpec.post enc Try.prog Try.f5 false true false false W args (.bool true) W' :=
    fun h W' hb => law_post (tb := 4) hW' law_laid (by kernel_rfl) rfl Try.underlying4 h.1 h.2.1 rfl h.2.2 hb
  obtain ⟨v0, vs0, d0, ds0, p0, q0, hargs, rfl, rfl, h0, r0⟩ := trodAll_cons hA
  obtain ⟨v1, vs1, d1, ds1, p1, q1, rfl, rfl, rfl, h1, r1⟩ := trodAll_cons r0
  obtain ⟨v2, vs2, d2, ds2, p2, q2, rfl, rfl, rfl, h2, r2⟩ := trodAll_cons r1
  obtain ⟨rfl, rfl, rfl⟩ := trodAll_nil r2
  obtain rfl : args = #[v0, v1, v2] := by cases args; simp_all
  obtain ⟨rfl, rfl⟩ := trodVars_none hV
  have hpost := hsame ⟨rfl, rfl, rfl⟩
  clear hsame hA0 hval0 hsz0
  obtain ⟨sm, sc, rfl, _, _⟩ := open_stamp (hval 0 32 v0 rfl rfl) h0
  obtain ⟨tm, tc, rfl, _, _⟩ := open_stamp (hval 1 32 v1 rfl rfl) h1
  obtain ⟨sn, rfl, rfl, rfl⟩ := open_bool Try.underlying4 (hval 2 4 v2 rfl rfl) h2
  exact (stamps_all sm sc tm tc sn W).mono fun e W' ⟨he, hb⟩ => ⟨_, he, hpost W' hb⟩
theorem causalStamps_holds : Rows.CausalStampsSaid :=
  OpenClaim.holds_of_wide 5 Try.f5 rfl rfl rfl rfl rfl rfl rfl ⟨rfl, rfl, rfl, rfl, rfl⟩ rfl rfl rfl rfl rfl (by kernel_rfl) Try.func5 (by kernel_rfl)
    (of_decide_eq_true (by kernel_rfl)) (by unfold Func.isWrapper; first | (rw [if_pos (by decide +kernel)]; kernel_rfl) | (rw [if_neg (by decide +kernel)]; exact ⟨rfl, rfl⟩))
    (fun os started H enc _ => causalStamps_lifted os started H enc)
end Go.Proofs.Ytehlipgjnplecaa
