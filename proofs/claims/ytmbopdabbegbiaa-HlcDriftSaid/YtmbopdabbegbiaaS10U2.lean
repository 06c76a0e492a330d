/- Stage 10: HlcDrift of nil, case 2 (written by gen/s10s.py). -/
import Derived.Test.YtmbopdabbegbiaaDriftA
import Derived.Deep.AppendLies
import Derived.BigGuard
import Derived.BigGuardPart
import Derived.BigCall
set_option linter.unusedSimpArgs false
set_option linter.unusedVariables false
namespace Go.Proofs.Ytmbopdabbegbiaa
open Go.ChangeShapes Go.WideShapes Go.ChangeAt Go.RowKit Go.Joins

set_option maxRecDepth 100000 in
set_option maxHeartbeats 16000000 in
theorem drift_nil2 (t by' sm : Int) (w : World) (a0 : 0 ≤ t) (a1 : t ≤ 1099511627776) (a2 : -1073741824 ≤ by') (a3 : by' ≤ 1073741824)
    (hx : t + 60000 + by' < 0 ∧ sm = 0) :
    Calls Try.prog 10 #[.int .i64 t, .int .i64 by', .slice none 0 0] w fun e w' => e = .returned (.bool true) ∧ Below w.heap.size w w' := by
  obtain ⟨i0, hi, hz0, hz1, hz2⟩ := info_parts stamp_info
  have t0 : decide (t < 0) = false := by simp only [decide_eq_false_iff_not]; omega
  have t1 : decide (1099511627776 < t) = false := by simp only [decide_eq_false_iff_not]; omega
  have t2 : decide (by' < -1073741824) = false := by simp only [decide_eq_false_iff_not]; omega
  have t3 : decide (1073741824 < by') = false := by simp only [decide_eq_false_iff_not]; omega
  obtain ⟨z, hzz⟩ : ∃ z : Nat → Int, z = fun _ => 0 := ⟨_, rfl⟩
  clear hzz
  have tw : IntKind.i64.wrap (t + 60000) = t + 60000 := IntWalk.i64_in _ (by omega)
  have tw2 : IntKind.i64.wrap (t + 60000 + by') = t + 60000 + by' := IntWalk.i64_in _ (by omega)
  have hfar : decide (0 < by') = true ↔ t + 60000 < sm := by simp only [decide_eq_true_eq]; omega
  have hsm : 0 ≤ sm ∧ sm ≤ 1100585429648 := by omega
  have HF := Lib.hid (And.intro hfar hsm)
  have hnw := hlc_new_ok 7
  have HX := Lib.hid hx
  clear hfar hsm hx
  go_enter Try.func10, Try.ntmps10
  go_wp2_with fail
  refine (hnw _ (by decide)).mono ?_; rintro e w' ⟨rfl, rfl⟩
  have K0 := Lib.hid ((Ints3.new w 7 0 7 73).alloc (.cells #[.int .i64 sm, .int .i64 3] 32))
  have J0 := Lib.hid (Ints2.new1 w (.cells #[.int .i64 7, .int .i64 0, .int .i64 7] 73) sm 3 32)
  have HB0 : Hid (Below w.heap.size w ((w.alloc (.cells #[.int .i64 7, .int .i64 0, .int .i64 7] 73)).alloc (.cells #[.int .i64 sm, .int .i64 3] 32))) := Lib.hid (by (repeat' (first | (with_reducible exact Below.refl _ _) | (with_reducible assumption) | (with_reducible refine Below.trans ?_ (Below.mono (by with_reducible assumption) ?_)) | (with_reducible refine Below.alloc ?_ ?_ _) | (with_reducible refine Below.setCell ?_ ?_ _) | (with_reducible refine below_drewN ?_ _) | (with_reducible refine Below.drew ?_) | go_size)))
  clear hnw
  obtain ⟨h1, h2⟩ := HX.out
  have u1 : decide (0 < t + 60000 + by') = false := by simp only [decide_eq_false_iff_not]; omega
  have u2 : decide (t + 60000 + by' < 0) = true := by simpa using h1
  subst h2
  clear HX
  go_wp2_with fail
  clear h1
  go_loopw [10, 11, 12] (fun f g i wr => ∃ k : Nat, k ≤ 0 ∧ i = .int .i64 k ∧ f = .bool (frK z t (decide (0 < by')) k) ∧ g = .bool (bdK z k) ∧ Ints3 wr w.heap.size 7 0 7 ∧ Ints2 wr (w.heap.size + 1) 0 3 ∧ Below w.heap.size w wr) (fun _ _ i _ => 0 - (intOf i).toNat)
  case atStart => exact ⟨0, Nat.zero_le _, rfl, by first | rfl | simp [frK], rfl, K0.out, J0.out, HB0.out⟩
  case round =>
    obtain ⟨k, hk, rfl, rfl, rfl, KC, JS, HB⟩ := hrel
    clear K0 J0 HB0
    have zr := HB.size
    by_cases hlt : k < 0
    · omega
    · obtain rfl : k = 0 := by omega
      have q0 := JS.c0
      have q1 := JS.c1
      have lj := JS.lt
      have lc := KC.lt
      have Hr : Below wr.heap.size wr wr := Below.refl _ _
      obtain ⟨r, m', c', HR, hh⟩ := drift_hear t 0 0 z (decide (0 < by')) HF.out.1 a0 a1 (by have := HF.out.2; simp [isStampB, isMilliB] <;> omega) (by omega)
      have HRR := Lib.hid HR
      have HH := Lib.hid hh
      clear HR hh
      go_wp2_with fail
      refine wp_region_held_drew (S := (fun w' => w'.cell? ⟨w.heap.size + 1, 0, none⟩ = some (.int .i64 0) ∧ w'.cell? ⟨w.heap.size + 1, 1, none⟩ = some (.int .i64 3))) (by kernel_rfl) ?_ (fun hHeld => ?_)
      · exact ⟨q0, q1⟩
      refine wpAnyH_take (i := 0) (v := ?_) rfl (by kernel_rfl) (by kernel_rfl) (by kernel_rfl) (fun _ _ _ h => h) (Or.inl ⟨by rfl, ?_⟩) (by assumption) ?_
      rotate_left
      · intro w' hSw; (try dsimp only at hSw); go_simp; (try with_reducible rfl)
      (try simp only [Act.put, List.setIfInBounds_toArray, List.set_cons_zero, List.set_cons_succ, List.getElem_toArray, List.getElem_cons_succ, List.getElem_cons_zero])
      refine wpAnyH_take (i := 1) (v := ?_) rfl (by kernel_rfl) (by kernel_rfl) (by kernel_rfl) (fun _ _ _ h => h) (Or.inl ⟨by rfl, ?_⟩) (by assumption) ?_
      rotate_left
      · intro w' hSw; (try dsimp only at hSw); go_simp; (try with_reducible rfl)
      (try simp only [Act.put, List.setIfInBounds_toArray, List.set_cons_zero, List.set_cons_succ, List.getElem_toArray, List.getElem_cons_succ, List.getElem_cons_zero])
      refine wpAnyH_take (i := 3) (v := ?_) rfl (by kernel_rfl) (by kernel_rfl) (by kernel_rfl) (fun _ _ _ h => h) (Or.inl ⟨by rfl, ?_⟩) (by assumption) ?_
      rotate_left
      · intro w' hSw; (try dsimp only at hSw); go_simp; (try with_reducible rfl)
      (try simp only [Act.put, List.setIfInBounds_toArray, List.set_cons_zero, List.set_cons_succ, List.getElem_toArray, List.getElem_cons_succ, List.getElem_cons_zero])
      refine wpAnyH_take (i := 5) (v := ?_) rfl (by kernel_rfl) (by kernel_rfl) (by kernel_rfl) (fun _ _ _ h => h) (Or.inl ⟨by rfl, ?_⟩) (by assumption) ?_
      rotate_left
      · intro w' hSw; (try dsimp only at hSw); go_simp; (try with_reducible rfl)
      (try simp only [Act.put, List.setIfInBounds_toArray, List.set_cons_zero, List.set_cons_succ, List.getElem_toArray, List.getElem_cons_succ, List.getElem_cons_zero])
      refine wpAnyH_ready (rs := [2, 6]) (by kernel_rfl) (by simp) ?_
      refine AllReadyH.cons rfl (fun K hK => ?_) (AllReadyH.cons rfl (fun K hK => ?_) (AllReadyH.nil))
      ·
        go_simp
        (try dsimp only)
        refine hK.out _ _ ?_ (fun hHeld => ?_)
        · exact ⟨(World.cell?_alloc_past (.cells #[] 32) (w.heap.size + 1) 0 (Nat.lt_of_lt_of_le lj Hr.size)).trans ((Hr.cell (p := ⟨w.heap.size + 1, 0, none⟩) lj).trans q0), (World.cell?_alloc_past (.cells #[] 32) (w.heap.size + 1) 1 (Nat.lt_of_lt_of_le lj Hr.size)).trans ((Hr.cell (p := ⟨w.heap.size + 1, 1, none⟩) lj).trans q1)⟩
        clear hK K
        (try simp only [Act.put, List.setIfInBounds_toArray, List.set_cons_zero, List.set_cons_succ, List.getElem_toArray, List.getElem_cons_succ, List.getElem_cons_zero])
        have Hb : Below wr.heap.size wr (wr.alloc (.cells #[] 32)).drew := (Hr.alloc Hr.size (.cells #[] 32)).drew
        have ownb : World.ownsRow (wr.alloc (.cells #[] 32)).drew wr.heap.size 32 2 (.slice (some ⟨wr.heap.size, 0, none⟩) 0 0) 0 [] := World.ownsRow_made wr #[] 0 Hr.size (Nat.zero_le _) rfl
        have nbb : wr.heap.size < ((wr.alloc (.cells #[] 32)).drew).heap.size := by simp
        generalize hWb : (wr.alloc (.cells #[] 32)).drew = Wb at *
        clear hWb
        refine wpAnyH_ready (rs := [4, 6]) (by kernel_rfl) (by simp) ?_
        refine AllReadyH.cons rfl (fun K hK => ?_) (AllReadyH.cons rfl (fun K hK => ?_) (AllReadyH.nil))
        ·
          go_simp
          have Hc := Hb
          have ownc := ownb
          (try dsimp only)
          refine hK.out _ _ ?_ (fun hHeld => ?_)
          · exact ⟨(Hc.cell (p := ⟨w.heap.size + 1, 0, none⟩) lj).trans q0, (Hc.cell (p := ⟨w.heap.size + 1, 1, none⟩) lj).trans q1⟩
          clear hK K
          (try simp only [Act.put, List.setIfInBounds_toArray, List.set_cons_zero, List.set_cons_succ, List.getElem_toArray, List.getElem_cons_succ, List.getElem_cons_zero])
          refine wpAnyH_ready (rs := [6]) (by kernel_rfl) (by simp) ?_
          refine AllReadyH.cons rfl (fun K hK => ?_) (AllReadyH.nil)
          go_simp
          (try dsimp only)
          refine hK.out _ _ ?_ (fun hHeld => ?_)
          · exact ⟨(World.cell?_alloc_past (.cells #[.int .i64 0, .int .i64 3] 32) (w.heap.size + 1) 0 (Nat.lt_of_lt_of_le lj Hc.size)).trans ((Hc.cell (p := ⟨w.heap.size + 1, 0, none⟩) lj).trans q0), (World.cell?_alloc_past (.cells #[.int .i64 0, .int .i64 3] 32) (w.heap.size + 1) 1 (Nat.lt_of_lt_of_le lj Hc.size)).trans ((Hc.cell (p := ⟨w.heap.size + 1, 1, none⟩) lj).trans q1)⟩
          clear hK K
          (try simp only [Act.put, List.setIfInBounds_toArray, List.set_cons_zero, List.set_cons_succ, List.getElem_toArray, List.getElem_cons_succ, List.getElem_cons_zero])
          have Hd : Below wr.heap.size wr (Wb.alloc (.cells #[.int .i64 0, .int .i64 3] 32)) := (Hc.alloc Hc.size (.cells #[.int .i64 0, .int .i64 3] 32))
          have ownd : World.ownsRow (Wb.alloc (.cells #[.int .i64 0, .int .i64 3] 32)) wr.heap.size 32 2 _ _ _ := ownc.alloc (.cells #[.int .i64 0, .int .i64 3] 32)
          have nwd : ∀ j u, ([.int .i64 0, .int .i64 3] : List Value)[j]? = some u → World.cell? (Wb.alloc (.cells #[.int .i64 0, .int .i64 3] 32)) ((⟨Wb.heap.size, 0, none⟩ : Addr).add j) = some u := World.news_of_block (cs := #[.int .i64 0, .int .i64 3]) (t := 32) (fr := (0, 0)) (heap_alloc_new Wb _)
          have nbd : Wb.heap.size < ((Wb.alloc (.cells #[.int .i64 0, .int .i64 3] 32))).heap.size := by simp
          generalize hWd : (Wb.alloc (.cells #[.int .i64 0, .int .i64 3] 32)) = Wd at *
          clear hWd
          refine wpAnyH_ready (rs := [7]) (by kernel_rfl) (by simp) ?_
          refine AllReadyH.cons rfl (fun K hK => ?_) (AllReadyH.nil)
          rw [if_pos (by rfl)]
          refine wp_append_own _ _ _ _ (by rfl) wr.heap.size 32 i0 _ 2 16 Try.underlying61 hi hz0 hz1 hz2 rfl (by decide) _ _ _ (by rfl) ownd ⟨Wb.heap.size, 0, none⟩ 1 1 [.int .i64 0, .int .i64 3] (by rfl) (by rfl) nwd (by simp [Value.oneCell']) (by unfold maxLen; omega) (by omega) Hd.size ?_
          intro ve We owne hge _
          have He : Below wr.heap.size wr We := Hd.grown hge Hd.size (fun b hb => (ownd.lt b hb).1)
          (try dsimp only)
          refine hK.out _ _ ?_ (fun hHeld => ?_)
          · exact ⟨(He.cell (p := ⟨w.heap.size + 1, 0, none⟩) lj).trans q0, (He.cell (p := ⟨w.heap.size + 1, 1, none⟩) lj).trans q1⟩
          clear hK K
          (try simp only [Act.put, List.setIfInBounds_toArray, List.set_cons_zero, List.set_cons_succ, List.getElem_toArray, List.getElem_cons_succ, List.getElem_cons_zero])
          have own' : We.ownsRow wr.heap.size 32 2 ve (0 + 1) (cellsOf (snZ z 0 0 3) ((0 + 1) * 2)) := by rw [← cells_sn, show cellsOf z (0 * 2) = [] from rfl]; simpa using owne
          have hbk := own'.lt
          obtain ⟨A1, c1, rfl, hp⟩ := own_pairs own'
          have hA : ∀ B' O', A1 = some ⟨B', O', none⟩ → B' ≠ w.heap.size := fun B' O' e => by
            have := (hbk B' (by rw [e]; rfl)).1
            omega
          have KE := KC.below He lc
          have HBe := HB.trans (He.mono zr)
          clear owne own' hbk hge
          refine wpAnyH_ready (rs := [8]) (by kernel_rfl) (by simp) ?_
          refine AllReadyH.cons rfl (fun K hK => ?_) (AllReadyH.nil)
          go_simp
          (go_at_call 19; refine (HH.out w.heap.size A1 c1 We KE hp hA).mono ?_; rintro e w9 ⟨rfl, ho9, K9⟩)
          have J9 : Ints2 w9 (w.heap.size + 1) 0 3 := (JS.below He lj).only ho9 (by omega)
          have HB9 : Below w.heap.size w w9 := HBe.trans (ho9.below (Nat.le_refl _) HBe.size)
          clear ho9 hp hA KE
          (try dsimp only)
          refine hK.out _ _ ?_ (fun hHeld => ?_)
          · exact ⟨J9.c0, J9.c1⟩
          clear hK K
          (try simp only [Act.put, List.setIfInBounds_toArray, List.set_cons_zero, List.set_cons_succ, List.getElem_toArray, List.getElem_cons_succ, List.getElem_cons_zero])
          refine wpAnyH_take (i := 9) (v := ?_) rfl (by kernel_rfl) (by kernel_rfl) (by kernel_rfl) (fun _ _ _ h => h) (Or.inl ⟨by rfl, ?_⟩) (by assumption) ?_
          rotate_left
          · intro w' hSw; (try dsimp only at hSw); go_simp; (try with_reducible rfl)
          (try simp only [Act.put, List.setIfInBounds_toArray, List.set_cons_zero, List.set_cons_succ, List.getElem_toArray, List.getElem_cons_succ, List.getElem_cons_zero])
          refine wpAnyH_done (by kernel_rfl) ?_ _
          have l9 := J9.lt
          have s0 := J9.c0
          have s1 := J9.c1
          rcases HRR.out with ⟨h1, h2, h3, h4⟩ | ⟨h1, h1', h2, h3, h4⟩ | ⟨h1, h1', h2, h4⟩
          · subst h2
            subst h3
            subst h4
            rw [h1]
            go_wp2_with fail
            refine (hlc_last _ 7 0 7 _ K9).mono ?_; rintro e w10 ⟨rfl, hb10⟩
            have HB10 := HB9.trans (hb10.mono HB9.size)
            have z10 := HB10.size
            clear hb10
            go_wp2_with (go_at_call 16; refine (known10 _).mono ?_; rintro e w11 ⟨rfl, hb11⟩)
            go_ret
            go_light
            exact ⟨rfl, HB10.trans (hb11.mono HB10.size)⟩
          · subst h2
            subst h3
            subst h4
            rw [h1, h1']
            go_wp2_with fail
            refine (hlc_last _ 7 0 7 _ K9).mono ?_; rintro e w10 ⟨rfl, hb10⟩
            have HB10 := HB9.trans (hb10.mono HB9.size)
            have z10 := HB10.size
            clear hb10
            go_wp2_with (go_at_call 16; refine (known10 _).mono ?_; rintro e w11 ⟨rfl, hb11⟩)
            go_ret
            go_light
            exact ⟨rfl, HB10.trans (hb11.mono HB10.size)⟩
          · subst h2
            rw [h1, h1']
            generalize hcm : cmp2 m' c' 0 3 = cm at *
            have HCM := Lib.hid hcm
            have hg : decide (0 ≤ cm) = true := by simpa using h4
            clear hcm
            go_wp2_with fail
            refine wp_region_held_drew (S := (fun w' => w'.cell? ⟨w.heap.size + 1, 0, none⟩ = some (.int .i64 0) ∧ w'.cell? ⟨w.heap.size + 1, 1, none⟩ = some (.int .i64 3))) (by kernel_rfl) ?_ (fun hHeld => ?_)
            · exact ⟨s0, s1⟩
            refine wpAnyH_take (i := 0) (v := ?_) rfl (by kernel_rfl) (by kernel_rfl) (by kernel_rfl) (fun _ _ _ h => h) (Or.inl ⟨by rfl, ?_⟩) (by assumption) ?_
            rotate_left
            · intro w' hSw; (try dsimp only at hSw); go_simp; (try with_reducible rfl)
            (try simp only [Act.put, List.setIfInBounds_toArray, List.set_cons_zero, List.set_cons_succ, List.getElem_toArray, List.getElem_cons_succ, List.getElem_cons_zero])
            refine wpAnyH_take (i := 1) (v := ?_) rfl (by kernel_rfl) (by kernel_rfl) (by kernel_rfl) (fun _ _ _ h => h) (Or.inl ⟨by rfl, ?_⟩) (by assumption) ?_
            rotate_left
            · intro w' hSw; (try dsimp only at hSw); go_simp; (try with_reducible rfl)
            (try simp only [Act.put, List.setIfInBounds_toArray, List.set_cons_zero, List.set_cons_succ, List.getElem_toArray, List.getElem_cons_succ, List.getElem_cons_zero])
            refine wpAnyH_take (i := 2) (v := ?_) rfl (by kernel_rfl) (by kernel_rfl) (by kernel_rfl) (fun _ _ _ h => h) (Or.inl ⟨by rfl, ?_⟩) (by assumption) ?_
            rotate_left
            · intro w' hSw; (try dsimp only at hSw); go_simp; (try with_reducible rfl)
            (try simp only [Act.put, List.setIfInBounds_toArray, List.set_cons_zero, List.set_cons_succ, List.getElem_toArray, List.getElem_cons_succ, List.getElem_cons_zero])
            refine wpAnyH_take (i := 3) (v := ?_) rfl (by kernel_rfl) (by kernel_rfl) (by kernel_rfl) (fun _ _ _ h => h) (Or.inl ⟨by rfl, ?_⟩) (by assumption) ?_
            rotate_left
            · intro w' hSw; (try dsimp only at hSw); go_simp; (try with_reducible rfl)
            (try simp only [Act.put, List.setIfInBounds_toArray, List.set_cons_zero, List.set_cons_succ, List.getElem_toArray, List.getElem_cons_succ, List.getElem_cons_zero])
            refine wpAnyH_take (i := 5) (v := ?_) rfl (by kernel_rfl) (by kernel_rfl) (by kernel_rfl) (fun _ _ _ h => h) (Or.inl ⟨by rfl, ?_⟩) (by assumption) ?_
            rotate_left
            · intro w' hSw; (try dsimp only at hSw); go_simp; (try with_reducible rfl)
            (try simp only [Act.put, List.setIfInBounds_toArray, List.set_cons_zero, List.set_cons_succ, List.getElem_toArray, List.getElem_cons_succ, List.getElem_cons_zero])
            refine wpAnyH_ready (rs := [4]) (by kernel_rfl) (by simp) ?_
            refine AllReadyH.cons rfl (fun K hK => ?_) (AllReadyH.nil)
            go_simp
            (go_at_call 23; refine (hlc_last _ m' c' 7 _ (by first | exact K9 | exact K9.drew)).mono ?_; rintro e u1 ⟨rfl, hb1⟩; have X1 : Below w9.heap.size w9 u1 := Below.trans (show Below w9.heap.size w9 _ from (by (repeat' (first | (with_reducible exact Below.refl _ _) | (with_reducible assumption) | (with_reducible refine Below.trans ?_ (Below.mono (by with_reducible assumption) ?_)) | (with_reducible refine Below.alloc ?_ ?_ _) | (with_reducible refine Below.setCell ?_ ?_ _) | (with_reducible refine below_drewN ?_ _) | (with_reducible refine Below.drew ?_) | go_size)))) (hb1.mono (Below.size (show Below w9.heap.size w9 _ from (by (repeat' (first | (with_reducible exact Below.refl _ _) | (with_reducible assumption) | (with_reducible refine Below.trans ?_ (Below.mono (by with_reducible assumption) ?_)) | (with_reducible refine Below.alloc ?_ ?_ _) | (with_reducible refine Below.setCell ?_ ?_ _) | (with_reducible refine below_drewN ?_ _) | (with_reducible refine Below.drew ?_) | go_size)))))))
            (try dsimp only)
            refine hK.out _ _ ?_ (fun hHeld => ?_)
            · exact ⟨(X1.cell (p := ⟨w.heap.size + 1, 0, none⟩) l9).trans s0, (X1.cell (p := ⟨w.heap.size + 1, 1, none⟩) l9).trans s1⟩
            clear hK K
            (try simp only [Act.put, List.setIfInBounds_toArray, List.set_cons_zero, List.set_cons_succ, List.getElem_toArray, List.getElem_cons_succ, List.getElem_cons_zero])
            refine wpAnyH_ready (rs := [6]) (by kernel_rfl) (by simp) ?_
            refine AllReadyH.cons rfl (fun K hK => ?_) (AllReadyH.nil)
            go_simp
            (go_at_call 26; refine (ref10_compare _ _ _ _ _).mono ?_; rw [HCM.out]; rintro e u2 ⟨rfl, hb2⟩; have X2 : Below w9.heap.size w9 u2 := Below.trans (show Below w9.heap.size w9 _ from (by (repeat' (first | (with_reducible exact Below.refl _ _) | (with_reducible assumption) | (with_reducible refine Below.trans ?_ (Below.mono (by with_reducible assumption) ?_)) | (with_reducible refine Below.alloc ?_ ?_ _) | (with_reducible refine Below.setCell ?_ ?_ _) | (with_reducible refine below_drewN ?_ _) | (with_reducible refine Below.drew ?_) | go_size)))) (hb2.mono (Below.size (show Below w9.heap.size w9 _ from (by (repeat' (first | (with_reducible exact Below.refl _ _) | (with_reducible assumption) | (with_reducible refine Below.trans ?_ (Below.mono (by with_reducible assumption) ?_)) | (with_reducible refine Below.alloc ?_ ?_ _) | (with_reducible refine Below.setCell ?_ ?_ _) | (with_reducible refine below_drewN ?_ _) | (with_reducible refine Below.drew ?_) | go_size)))))))
            (try dsimp only)
            refine hK.out _ _ ?_ (fun hHeld => ?_)
            · exact ⟨(X2.cell (p := ⟨w.heap.size + 1, 0, none⟩) l9).trans s0, (X2.cell (p := ⟨w.heap.size + 1, 1, none⟩) l9).trans s1⟩
            clear hK K
            (try simp only [Act.put, List.setIfInBounds_toArray, List.set_cons_zero, List.set_cons_succ, List.getElem_toArray, List.getElem_cons_succ, List.getElem_cons_zero])
            refine wpAnyH_take (i := 7) (v := ?_) rfl (by kernel_rfl) (by kernel_rfl) (by kernel_rfl) (fun _ _ _ h => h) (Or.inl ⟨by rfl, ?_⟩) (by assumption) ?_
            rotate_left
            · intro w' hSw; (try dsimp only at hSw); go_simp; (try with_reducible rfl)
            (try simp only [Act.put, List.setIfInBounds_toArray, List.set_cons_zero, List.set_cons_succ, List.getElem_toArray, List.getElem_cons_succ, List.getElem_cons_zero])
            refine wpAnyH_take (i := 8) (v := ?_) rfl (by kernel_rfl) (by kernel_rfl) (by kernel_rfl) (fun _ _ _ h => h) (Or.inl ⟨by rfl, ?_⟩) (by assumption) ?_
            rotate_left
            · intro w' hSw; (try dsimp only at hSw); go_simp; (try with_reducible rfl)
            (try simp only [Act.put, List.setIfInBounds_toArray, List.set_cons_zero, List.set_cons_succ, List.getElem_toArray, List.getElem_cons_succ, List.getElem_cons_zero])
            refine wpAnyH_take (i := 9) (v := ?_) rfl (by kernel_rfl) (by kernel_rfl) (by kernel_rfl) (fun _ _ _ h => h) (Or.inl ⟨by rfl, ?_⟩) (by assumption) ?_
            rotate_left
            · intro w' hSw; (try dsimp only at hSw); go_simp; (try with_reducible rfl)
            (try simp only [Act.put, List.setIfInBounds_toArray, List.set_cons_zero, List.set_cons_succ, List.getElem_toArray, List.getElem_cons_succ, List.getElem_cons_zero])
            refine wpAnyH_ready (rs := [10]) (by kernel_rfl) (by simp) ?_
            refine AllReadyH.cons rfl (fun K hK => ?_) (AllReadyH.nil)
            go_simp
            (go_at_call 16; refine (known10 _).mono ?_; rintro e u3 ⟨rfl, hb3⟩; have X3 : Below w9.heap.size w9 u3 := Below.trans (show Below w9.heap.size w9 _ from (by (repeat' (first | (with_reducible exact Below.refl _ _) | (with_reducible assumption) | (with_reducible refine Below.trans ?_ (Below.mono (by with_reducible assumption) ?_)) | (with_reducible refine Below.alloc ?_ ?_ _) | (with_reducible refine Below.setCell ?_ ?_ _) | (with_reducible refine below_drewN ?_ _) | (with_reducible refine Below.drew ?_) | go_size)))) (hb3.mono (Below.size (show Below w9.heap.size w9 _ from (by (repeat' (first | (with_reducible exact Below.refl _ _) | (with_reducible assumption) | (with_reducible refine Below.trans ?_ (Below.mono (by with_reducible assumption) ?_)) | (with_reducible refine Below.alloc ?_ ?_ _) | (with_reducible refine Below.setCell ?_ ?_ _) | (with_reducible refine below_drewN ?_ _) | (with_reducible refine Below.drew ?_) | go_size)))))))
            (try dsimp only)
            refine hK.out _ _ ?_ (fun hHeld => ?_)
            · exact ⟨(X3.cell (p := ⟨w.heap.size + 1, 0, none⟩) l9).trans s0, (X3.cell (p := ⟨w.heap.size + 1, 1, none⟩) l9).trans s1⟩
            clear hK K
            (try simp only [Act.put, List.setIfInBounds_toArray, List.set_cons_zero, List.set_cons_succ, List.getElem_toArray, List.getElem_cons_succ, List.getElem_cons_zero])
            refine wpAnyH_take (i := 11) (v := ?_) rfl (by kernel_rfl) (by kernel_rfl) (by kernel_rfl) (fun _ _ _ h => h) (Or.inl ⟨by rfl, ?_⟩) (by assumption) ?_
            rotate_left
            · intro w' hSw; (try dsimp only at hSw); go_simp; (try with_reducible rfl)
            (try simp only [Act.put, List.setIfInBounds_toArray, List.set_cons_zero, List.set_cons_succ, List.getElem_toArray, List.getElem_cons_succ, List.getElem_cons_zero])
            refine wpAnyH_take (i := 12) (v := ?_) rfl (by kernel_rfl) (by kernel_rfl) (by kernel_rfl) (fun _ _ _ h => h) (Or.inl ⟨by rfl, ?_⟩) (by assumption) ?_
            rotate_left
            · intro w' hSw; (try dsimp only at hSw); go_simp; (try with_reducible rfl)
            (try simp only [Act.put, List.setIfInBounds_toArray, List.set_cons_zero, List.set_cons_succ, List.getElem_toArray, List.getElem_cons_succ, List.getElem_cons_zero])
            refine wpAnyH_done (by kernel_rfl) ?_ _
            have HBE := HB9.trans (X3.mono HB9.size)
            clear hb1 hb2 hb3
            go_wp2
            go_ret
            go_light
            exact ⟨rfl, HBE⟩
        ·
          go_simp
          (try dsimp only)
          refine hK.out _ _ ?_ (fun hHeld => ?_)
          · exact ⟨(World.cell?_alloc_past (.cells #[.int .i64 0, .int .i64 3] 32) (w.heap.size + 1) 0 (Nat.lt_of_lt_of_le lj Hb.size)).trans ((Hb.cell (p := ⟨w.heap.size + 1, 0, none⟩) lj).trans q0), (World.cell?_alloc_past (.cells #[.int .i64 0, .int .i64 3] 32) (w.heap.size + 1) 1 (Nat.lt_of_lt_of_le lj Hb.size)).trans ((Hb.cell (p := ⟨w.heap.size + 1, 1, none⟩) lj).trans q1)⟩
          clear hK K
          (try simp only [Act.put, List.setIfInBounds_toArray, List.set_cons_zero, List.set_cons_succ, List.getElem_toArray, List.getElem_cons_succ, List.getElem_cons_zero])
          have Hc : Below wr.heap.size wr (Wb.alloc (.cells #[.int .i64 0, .int .i64 3] 32)) := (Hb.alloc Hb.size (.cells #[.int .i64 0, .int .i64 3] 32))
          have ownc : World.ownsRow (Wb.alloc (.cells #[.int .i64 0, .int .i64 3] 32)) wr.heap.size 32 2 _ _ _ := ownb.alloc (.cells #[.int .i64 0, .int .i64 3] 32)
          have nwc : ∀ j u, ([.int .i64 0, .int .i64 3] : List Value)[j]? = some u → World.cell? (Wb.alloc (.cells #[.int .i64 0, .int .i64 3] 32)) ((⟨Wb.heap.size, 0, none⟩ : Addr).add j) = some u := World.news_of_block (cs := #[.int .i64 0, .int .i64 3]) (t := 32) (fr := (0, 0)) (heap_alloc_new Wb _)
          have nbc : Wb.heap.size < ((Wb.alloc (.cells #[.int .i64 0, .int .i64 3] 32))).heap.size := by simp
          generalize hWc : (Wb.alloc (.cells #[.int .i64 0, .int .i64 3] 32)) = Wc at *
          clear hWc
          refine wpAnyH_ready (rs := [4]) (by kernel_rfl) (by simp) ?_
          refine AllReadyH.cons rfl (fun K hK => ?_) (AllReadyH.nil)
          go_simp
          have Hd := Hc
          have ownd := ownc
          have nwd := nwc
          (try dsimp only)
          refine hK.out _ _ ?_ (fun hHeld => ?_)
          · exact ⟨(Hd.cell (p := ⟨w.heap.size + 1, 0, none⟩) lj).trans q0, (Hd.cell (p := ⟨w.heap.size + 1, 1, none⟩) lj).trans q1⟩
          clear hK K
          (try simp only [Act.put, List.setIfInBounds_toArray, List.set_cons_zero, List.set_cons_succ, List.getElem_toArray, List.getElem_cons_succ, List.getElem_cons_zero])
          refine wpAnyH_ready (rs := [7]) (by kernel_rfl) (by simp) ?_
          refine AllReadyH.cons rfl (fun K hK => ?_) (AllReadyH.nil)
          rw [if_pos (by rfl)]
          refine wp_append_own _ _ _ _ (by rfl) wr.heap.size 32 i0 _ 2 16 Try.underlying61 hi hz0 hz1 hz2 rfl (by decide) _ _ _ (by rfl) ownd ⟨Wb.heap.size, 0, none⟩ 1 1 [.int .i64 0, .int .i64 3] (by rfl) (by rfl) nwd (by simp [Value.oneCell']) (by unfold maxLen; omega) (by omega) Hd.size ?_
          intro ve We owne hge _
          have He : Below wr.heap.size wr We := Hd.grown hge Hd.size (fun b hb => (ownd.lt b hb).1)
          (try dsimp only)
          refine hK.out _ _ ?_ (fun hHeld => ?_)
          · exact ⟨(He.cell (p := ⟨w.heap.size + 1, 0, none⟩) lj).trans q0, (He.cell (p := ⟨w.heap.size + 1, 1, none⟩) lj).trans q1⟩
          clear hK K
          (try simp only [Act.put, List.setIfInBounds_toArray, List.set_cons_zero, List.set_cons_succ, List.getElem_toArray, List.getElem_cons_succ, List.getElem_cons_zero])
          have own' : We.ownsRow wr.heap.size 32 2 ve (0 + 1) (cellsOf (snZ z 0 0 3) ((0 + 1) * 2)) := by rw [← cells_sn, show cellsOf z (0 * 2) = [] from rfl]; simpa using owne
          have hbk := own'.lt
          obtain ⟨A1, c1, rfl, hp⟩ := own_pairs own'
          have hA : ∀ B' O', A1 = some ⟨B', O', none⟩ → B' ≠ w.heap.size := fun B' O' e => by
            have := (hbk B' (by rw [e]; rfl)).1
            omega
          have KE := KC.below He lc
          have HBe := HB.trans (He.mono zr)
          clear owne own' hbk hge
          refine wpAnyH_ready (rs := [8]) (by kernel_rfl) (by simp) ?_
          refine AllReadyH.cons rfl (fun K hK => ?_) (AllReadyH.nil)
          go_simp
          (go_at_call 19; refine (HH.out w.heap.size A1 c1 We KE hp hA).mono ?_; rintro e w9 ⟨rfl, ho9, K9⟩)
          have J9 : Ints2 w9 (w.heap.size + 1) 0 3 := (JS.below He lj).only ho9 (by omega)
          have HB9 : Below w.heap.size w w9 := HBe.trans (ho9.below (Nat.le_refl _) HBe.size)
          clear ho9 hp hA KE
          (try dsimp only)
          refine hK.out _ _ ?_ (fun hHeld => ?_)
          · exact ⟨J9.c0, J9.c1⟩
          clear hK K
          (try simp only [Act.put, List.setIfInBounds_toArray, List.set_cons_zero, List.set_cons_succ, List.getElem_toArray, List.getElem_cons_succ, List.getElem_cons_zero])
          refine wpAnyH_take (i := 9) (v := ?_) rfl (by kernel_rfl) (by kernel_rfl) (by kernel_rfl) (fun _ _ _ h => h) (Or.inl ⟨by rfl, ?_⟩) (by assumption) ?_
          rotate_left
          · intro w' hSw; (try dsimp only at hSw); go_simp; (try with_reducible rfl)
          (try simp only [Act.put, List.setIfInBounds_toArray, List.set_cons_zero, List.set_cons_succ, List.getElem_toArray, List.getElem_cons_succ, List.getElem_cons_zero])
          refine wpAnyH_done (by kernel_rfl) ?_ _
          have l9 := J9.lt
          have s0 := J9.c0
          have s1 := J9.c1
          rcases HRR.out with ⟨h1, h2, h3, h4⟩ | ⟨h1, h1', h2, h3, h4⟩ | ⟨h1, h1', h2, h4⟩
          · subst h2
            subst h3
            subst h4
            rw [h1]
            go_wp2_with fail
            refine (hlc_last _ 7 0 7 _ K9).mono ?_; rintro e w10 ⟨rfl, hb10⟩
            have HB10 := HB9.trans (hb10.mono HB9.size)
            have z10 := HB10.size
            clear hb10
            go_wp2_with (go_at_call 16; refine (known10 _).mono ?_; rintro e w11 ⟨rfl, hb11⟩)
            go_ret
            go_light
            exact ⟨rfl, HB10.trans (hb11.mono HB10.size)⟩
          · subst h2
            subst h3
            subst h4
            rw [h1, h1']
            go_wp2_with fail
            refine (hlc_last _ 7 0 7 _ K9).mono ?_; rintro e w10 ⟨rfl, hb10⟩
            have HB10 := HB9.trans (hb10.mono HB9.size)
            have z10 := HB10.size
            clear hb10
            go_wp2_with (go_at_call 16; refine (known10 _).mono ?_; rintro e w11 ⟨rfl, hb11⟩)
            go_ret
            go_light
            exact ⟨rfl, HB10.trans (hb11.mono HB10.size)⟩
          · subst h2
            rw [h1, h1']
            generalize hcm : cmp2 m' c' 0 3 = cm at *
            have HCM := Lib.hid hcm
            have hg : decide (0 ≤ cm) = true := by simpa using h4
            clear hcm
            go_wp2_with fail
            refine wp_region_held_drew (S := (fun w' => w'.cell? ⟨w.heap.size + 1, 0, none⟩ = some (.int .i64 0) ∧ w'.cell? ⟨w.heap.size + 1, 1, none⟩ = some (.int .i64 3))) (by kernel_rfl) ?_ (fun hHeld => ?_)
            · exact ⟨s0, s1⟩
            refine wpAnyH_take (i := 0) (v := ?_) rfl (by kernel_rfl) (by kernel_rfl) (by kernel_rfl) (fun _ _ _ h => h) (Or.inl ⟨by rfl, ?_⟩) (by assumption) ?_
            rotate_left
            · intro w' hSw; (try dsimp only at hSw); go_simp; (try with_reducible rfl)
            (try simp only [Act.put, List.setIfInBounds_toArray, List.set_cons_zero, List.set_cons_succ, List.getElem_toArray, List.getElem_cons_succ, List.getElem_cons_zero])
            refine wpAnyH_take (i := 1) (v := ?_) rfl (by kernel_rfl) (by kernel_rfl) (by kernel_rfl) (fun _ _ _ h => h) (Or.inl ⟨by rfl, ?_⟩) (by assumption) ?_
            rotate_left
            · intro w' hSw; (try dsimp only at hSw); go_simp; (try with_reducible rfl)
            (try simp only [Act.put, List.setIfInBounds_toArray, List.set_cons_zero, List.set_cons_succ, List.getElem_toArray, List.getElem_cons_succ, List.getElem_cons_zero])
            refine wpAnyH_take (i := 2) (v := ?_) rfl (by kernel_rfl) (by kernel_rfl) (by kernel_rfl) (fun _ _ _ h => h) (Or.inl ⟨by rfl, ?_⟩) (by assumption) ?_
            rotate_left
            · intro w' hSw; (try dsimp only at hSw); go_simp; (try with_reducible rfl)
            (try simp only [Act.put, List.setIfInBounds_toArray, List.set_cons_zero, List.set_cons_succ, List.getElem_toArray, List.getElem_cons_succ, List.getElem_cons_zero])
            refine wpAnyH_take (i := 3) (v := ?_) rfl (by kernel_rfl) (by kernel_rfl) (by kernel_rfl) (fun _ _ _ h => h) (Or.inl ⟨by rfl, ?_⟩) (by assumption) ?_
            rotate_left
            · intro w' hSw; (try dsimp only at hSw); go_simp; (try with_reducible rfl)
            (try simp only [Act.put, List.setIfInBounds_toArray, List.set_cons_zero, List.set_cons_succ, List.getElem_toArray, List.getElem_cons_succ, List.getElem_cons_zero])
            refine wpAnyH_take (i := 5) (v := ?_) rfl (by kernel_rfl) (by kernel_rfl) (by kernel_rfl) (fun _ _ _ h => h) (Or.inl ⟨by rfl, ?_⟩) (by assumption) ?_
            rotate_left
            · intro w' hSw; (try dsimp only at hSw); go_simp; (try with_reducible rfl)
            (try simp only [Act.put, List.setIfInBounds_toArray, List.set_cons_zero, List.set_cons_succ, List.getElem_toArray, List.getElem_cons_succ, List.getElem_cons_zero])
            refine wpAnyH_ready (rs := [4]) (by kernel_rfl) (by simp) ?_
            refine AllReadyH.cons rfl (fun K hK => ?_) (AllReadyH.nil)
            go_simp
            (go_at_call 23; refine (hlc_last _ m' c' 7 _ (by first | exact K9 | exact K9.drew)).mono ?_; rintro e u1 ⟨rfl, hb1⟩; have X1 : Below w9.heap.size w9 u1 := Below.trans (show Below w9.heap.size w9 _ from (by (repeat' (first | (with_reducible exact Below.refl _ _) | (with_reducible assumption) | (with_reducible refine Below.trans ?_ (Below.mono (by with_reducible assumption) ?_)) | (with_reducible refine Below.alloc ?_ ?_ _) | (with_reducible refine Below.setCell ?_ ?_ _) | (with_reducible refine below_drewN ?_ _) | (with_reducible refine Below.drew ?_) | go_size)))) (hb1.mono (Below.size (show Below w9.heap.size w9 _ from (by (repeat' (first | (with_reducible exact Below.refl _ _) | (with_reducible assumption) | (with_reducible refine Below.trans ?_ (Below.mono (by with_reducible assumption) ?_)) | (with_reducible refine Below.alloc ?_ ?_ _) | (with_reducible refine Below.setCell ?_ ?_ _) | (with_reducible refine below_drewN ?_ _) | (with_reducible refine Below.drew ?_) | go_size)))))))
            (try dsimp only)
            refine hK.out _ _ ?_ (fun hHeld => ?_)
            · exact ⟨(X1.cell (p := ⟨w.heap.size + 1, 0, none⟩) l9).trans s0, (X1.cell (p := ⟨w.heap.size + 1, 1, none⟩) l9).trans s1⟩
            clear hK K
            (try simp only [Act.put, List.setIfInBounds_toArray, List.set_cons_zero, List.set_cons_succ, List.getElem_toArray, List.getElem_cons_succ, List.getElem_cons_zero])
            refine wpAnyH_ready (rs := [6]) (by kernel_rfl) (by simp) ?_
            refine AllReadyH.cons rfl (fun K hK => ?_) (AllReadyH.nil)
            go_simp
            (go_at_call 26; refine (ref10_compare _ _ _ _ _).mono ?_; rw [HCM.out]; rintro e u2 ⟨rfl, hb2⟩; have X2 : Below w9.heap.size w9 u2 := Below.trans (show Below w9.heap.size w9 _ from (by (repeat' (first | (with_reducible exact Below.refl _ _) | (with_reducible assumption) | (with_reducible refine Below.trans ?_ (Below.mono (by with_reducible assumption) ?_)) | (with_reducible refine Below.alloc ?_ ?_ _) | (with_reducible refine Below.setCell ?_ ?_ _) | (with_reducible refine below_drewN ?_ _) | (with_reducible refine Below.drew ?_) | go_size)))) (hb2.mono (Below.size (show Below w9.heap.size w9 _ from (by (repeat' (first | (with_reducible exact Below.refl _ _) | (with_reducible assumption) | (with_reducible refine Below.trans ?_ (Below.mono (by with_reducible assumption) ?_)) | (with_reducible refine Below.alloc ?_ ?_ _) | (with_reducible refine Below.setCell ?_ ?_ _) | (with_reducible refine below_drewN ?_ _) | (with_reducible refine Below.drew ?_) | go_size)))))))
            (try dsimp only)
            refine hK.out _ _ ?_ (fun hHeld => ?_)
            · exact ⟨(X2.cell (p := ⟨w.heap.size + 1, 0, none⟩) l9).trans s0, (X2.cell (p := ⟨w.heap.size + 1, 1, none⟩) l9).trans s1⟩
            clear hK K
            (try simp only [Act.put, List.setIfInBounds_toArray, List.set_cons_zero, List.set_cons_succ, List.getElem_toArray, List.getElem_cons_succ, List.getElem_cons_zero])
            refine wpAnyH_take (i := 7) (v := ?_) rfl (by kernel_rfl) (by kernel_rfl) (by kernel_rfl) (fun _ _ _ h => h) (Or.inl ⟨by rfl, ?_⟩) (by assumption) ?_
            rotate_left
            · intro w' hSw; (try dsimp only at hSw); go_simp; (try with_reducible rfl)
            (try simp only [Act.put, List.setIfInBounds_toArray, List.set_cons_zero, List.set_cons_succ, List.getElem_toArray, List.getElem_cons_succ, List.getElem_cons_zero])
            refine wpAnyH_take (i := 8) (v := ?_) rfl (by kernel_rfl) (by kernel_rfl) (by kernel_rfl) (fun _ _ _ h => h) (Or.inl ⟨by rfl, ?_⟩) (by assumption) ?_
            rotate_left
            · intro w' hSw; (try dsimp only at hSw); go_simp; (try with_reducible rfl)
            (try simp only [Act.put, List.setIfInBounds_toArray, List.set_cons_zero, List.set_cons_succ, List.getElem_toArray, List.getElem_cons_succ, List.getElem_cons_zero])
            refine wpAnyH_take (i := 9) (v := ?_) rfl (by kernel_rfl) (by kernel_rfl) (by kernel_rfl) (fun _ _ _ h => h) (Or.inl ⟨by rfl, ?_⟩) (by assumption) ?_
            rotate_left
            · intro w' hSw; (try dsimp only at hSw); go_simp; (try with_reducible rfl)
            (try simp only [Act.put, List.setIfInBounds_toArray, List.set_cons_zero, List.set_cons_succ, List.getElem_toArray, List.getElem_cons_succ, List.getElem_cons_zero])
            refine wpAnyH_ready (rs := [10]) (by kernel_rfl) (by simp) ?_
            refine AllReadyH.cons rfl (fun K hK => ?_) (AllReadyH.nil)
            go_simp
            (go_at_call 16; refine (known10 _).mono ?_; rintro e u3 ⟨rfl, hb3⟩; have X3 : Below w9.heap.size w9 u3 := Below.trans (show Below w9.heap.size w9 _ from (by (repeat' (first | (with_reducible exact Below.refl _ _) | (with_reducible assumption) | (with_reducible refine Below.trans ?_ (Below.mono (by with_reducible assumption) ?_)) | (with_reducible refine Below.alloc ?_ ?_ _) | (with_reducible refine Below.setCell ?_ ?_ _) | (with_reducible refine below_drewN ?_ _) | (with_reducible refine Below.drew ?_) | go_size)))) (hb3.mono (Below.size (show Below w9.heap.size w9 _ from (by (repeat' (first | (with_reducible exact Below.refl _ _) | (with_reducible assumption) | (with_reducible refine Below.trans ?_ (Below.mono (by with_reducible assumption) ?_)) | (with_reducible refine Below.alloc ?_ ?_ _) | (with_reducible refine Below.setCell ?_ ?_ _) | (with_reducible refine below_drewN ?_ _) | (with_reducible refine Below.drew ?_) | go_size)))))))
            (try dsimp only)
            refine hK.out _ _ ?_ (fun hHeld => ?_)
            · exact ⟨(X3.cell (p := ⟨w.heap.size + 1, 0, none⟩) l9).trans s0, (X3.cell (p := ⟨w.heap.size + 1, 1, none⟩) l9).trans s1⟩
            clear hK K
            (try simp only [Act.put, List.setIfInBounds_toArray, List.set_cons_zero, List.set_cons_succ, List.getElem_toArray, List.getElem_cons_succ, List.getElem_cons_zero])
            refine wpAnyH_take (i := 11) (v := ?_) rfl (by kernel_rfl) (by kernel_rfl) (by kernel_rfl) (fun _ _ _ h => h) (Or.inl ⟨by rfl, ?_⟩) (by assumption) ?_
            rotate_left
            · intro w' hSw; (try dsimp only at hSw); go_simp; (try with_reducible rfl)
            (try simp only [Act.put, List.setIfInBounds_toArray, List.set_cons_zero, List.set_cons_succ, List.getElem_toArray, List.getElem_cons_succ, List.getElem_cons_zero])
            refine wpAnyH_take (i := 12) (v := ?_) rfl (by kernel_rfl) (by kernel_rfl) (by kernel_rfl) (fun _ _ _ h => h) (Or.inl ⟨by rfl, ?_⟩) (by assumption) ?_
            rotate_left
            · intro w' hSw; (try dsimp only at hSw); go_simp; (try with_reducible rfl)
            (try simp only [Act.put, List.setIfInBounds_toArray, List.set_cons_zero, List.set_cons_succ, List.getElem_toArray, List.getElem_cons_succ, List.getElem_cons_zero])
            refine wpAnyH_done (by kernel_rfl) ?_ _
            have HBE := HB9.trans (X3.mono HB9.size)
            clear hb1 hb2 hb3
            go_wp2
            go_ret
            go_light
            exact ⟨rfl, HBE⟩
      ·
        go_simp
        (try dsimp only)
        refine hK.out _ _ ?_ (fun hHeld => ?_)
        · exact ⟨(World.cell?_alloc_past (.cells #[.int .i64 0, .int .i64 3] 32) (w.heap.size + 1) 0 (Nat.lt_of_lt_of_le lj Hr.size)).trans ((Hr.cell (p := ⟨w.heap.size + 1, 0, none⟩) lj).trans q0), (World.cell?_alloc_past (.cells #[.int .i64 0, .int .i64 3] 32) (w.heap.size + 1) 1 (Nat.lt_of_lt_of_le lj Hr.size)).trans ((Hr.cell (p := ⟨w.heap.size + 1, 1, none⟩) lj).trans q1)⟩
        clear hK K
        (try simp only [Act.put, List.setIfInBounds_toArray, List.set_cons_zero, List.set_cons_succ, List.getElem_toArray, List.getElem_cons_succ, List.getElem_cons_zero])
        have Hb : Below wr.heap.size wr (wr.alloc (.cells #[.int .i64 0, .int .i64 3] 32)).drew := (Hr.alloc Hr.size (.cells #[.int .i64 0, .int .i64 3] 32)).drew
        have nwb : ∀ j u, ([.int .i64 0, .int .i64 3] : List Value)[j]? = some u → World.cell? (wr.alloc (.cells #[.int .i64 0, .int .i64 3] 32)).drew ((⟨wr.heap.size, 0, none⟩ : Addr).add j) = some u := World.news_of_block (cs := #[.int .i64 0, .int .i64 3]) (t := 32) (fr := (0, 0)) (heap_alloc_new wr _)
        have nbb : wr.heap.size < ((wr.alloc (.cells #[.int .i64 0, .int .i64 3] 32)).drew).heap.size := by simp
        generalize hWb : (wr.alloc (.cells #[.int .i64 0, .int .i64 3] 32)).drew = Wb at *
        clear hWb
        refine wpAnyH_ready (rs := [2]) (by kernel_rfl) (by simp) ?_
        refine AllReadyH.cons rfl (fun K hK => ?_) (AllReadyH.nil)
        go_simp
        (try dsimp only)
        refine hK.out _ _ ?_ (fun hHeld => ?_)
        · exact ⟨(World.cell?_alloc_past (.cells #[] 32) (w.heap.size + 1) 0 (Nat.lt_of_lt_of_le lj Hb.size)).trans ((Hb.cell (p := ⟨w.heap.size + 1, 0, none⟩) lj).trans q0), (World.cell?_alloc_past (.cells #[] 32) (w.heap.size + 1) 1 (Nat.lt_of_lt_of_le lj Hb.size)).trans ((Hb.cell (p := ⟨w.heap.size + 1, 1, none⟩) lj).trans q1)⟩
        clear hK K
        (try simp only [Act.put, List.setIfInBounds_toArray, List.set_cons_zero, List.set_cons_succ, List.getElem_toArray, List.getElem_cons_succ, List.getElem_cons_zero])
        have Hc : Below wr.heap.size wr (Wb.alloc (.cells #[] 32)) := (Hb.alloc Hb.size (.cells #[] 32))
        have ownc : World.ownsRow (Wb.alloc (.cells #[] 32)) wr.heap.size 32 2 (.slice (some ⟨Wb.heap.size, 0, none⟩) 0 0) 0 [] := World.ownsRow_made Wb #[] 0 Hb.size (Nat.zero_le _) rfl
        have nbc : Wb.heap.size < ((Wb.alloc (.cells #[] 32))).heap.size := by simp
        have nwc : ∀ j u, ([.int .i64 0, .int .i64 3] : List Value)[j]? = some u → World.cell? (Wb.alloc (.cells #[] 32)) ((⟨wr.heap.size, 0, none⟩ : Addr).add j) = some u := fun j u h => by
          have h2 := nwb j u h
          rw [at_add] at h2 ⊢
          exact (World.cell?_alloc_past (.cells #[] 32) wr.heap.size (0 + j) nbb).trans h2
        generalize hWc : (Wb.alloc (.cells #[] 32)) = Wc at *
        clear hWc
        refine wpAnyH_ready (rs := [4]) (by kernel_rfl) (by simp) ?_
        refine AllReadyH.cons rfl (fun K hK => ?_) (AllReadyH.nil)
        go_simp
        have Hd := Hc
        have ownd := ownc
        have nwd := nwc
        (try dsimp only)
        refine hK.out _ _ ?_ (fun hHeld => ?_)
        · exact ⟨(Hd.cell (p := ⟨w.heap.size + 1, 0, none⟩) lj).trans q0, (Hd.cell (p := ⟨w.heap.size + 1, 1, none⟩) lj).trans q1⟩
        clear hK K
        (try simp only [Act.put, List.setIfInBounds_toArray, List.set_cons_zero, List.set_cons_succ, List.getElem_toArray, List.getElem_cons_succ, List.getElem_cons_zero])
        refine wpAnyH_ready (rs := [7]) (by kernel_rfl) (by simp) ?_
        refine AllReadyH.cons rfl (fun K hK => ?_) (AllReadyH.nil)
        rw [if_pos (by rfl)]
        refine wp_append_own _ _ _ _ (by rfl) wr.heap.size 32 i0 _ 2 16 Try.underlying61 hi hz0 hz1 hz2 rfl (by decide) _ _ _ (by rfl) ownd ⟨wr.heap.size, 0, none⟩ 1 1 [.int .i64 0, .int .i64 3] (by rfl) (by rfl) nwd (by simp [Value.oneCell']) (by unfold maxLen; omega) (by omega) Hd.size ?_
        intro ve We owne hge _
        have He : Below wr.heap.size wr We := Hd.grown hge Hd.size (fun b hb => (ownd.lt b hb).1)
        (try dsimp only)
        refine hK.out _ _ ?_ (fun hHeld => ?_)
        · exact ⟨(He.cell (p := ⟨w.heap.size + 1, 0, none⟩) lj).trans q0, (He.cell (p := ⟨w.heap.size + 1, 1, none⟩) lj).trans q1⟩
        clear hK K
        (try simp only [Act.put, List.setIfInBounds_toArray, List.set_cons_zero, List.set_cons_succ, List.getElem_toArray, List.getElem_cons_succ, List.getElem_cons_zero])
        have own' : We.ownsRow wr.heap.size 32 2 ve (0 + 1) (cellsOf (snZ z 0 0 3) ((0 + 1) * 2)) := by rw [← cells_sn, show cellsOf z (0 * 2) = [] from rfl]; simpa using owne
        have hbk := own'.lt
        obtain ⟨A1, c1, rfl, hp⟩ := own_pairs own'
        have hA : ∀ B' O', A1 = some ⟨B', O', none⟩ → B' ≠ w.heap.size := fun B' O' e => by
          have := (hbk B' (by rw [e]; rfl)).1
          omega
        have KE := KC.below He lc
        have HBe := HB.trans (He.mono zr)
        clear owne own' hbk hge
        refine wpAnyH_ready (rs := [8]) (by kernel_rfl) (by simp) ?_
        refine AllReadyH.cons rfl (fun K hK => ?_) (AllReadyH.nil)
        go_simp
        (go_at_call 19; refine (HH.out w.heap.size A1 c1 We KE hp hA).mono ?_; rintro e w9 ⟨rfl, ho9, K9⟩)
        have J9 : Ints2 w9 (w.heap.size + 1) 0 3 := (JS.below He lj).only ho9 (by omega)
        have HB9 : Below w.heap.size w w9 := HBe.trans (ho9.below (Nat.le_refl _) HBe.size)
        clear ho9 hp hA KE
        (try dsimp only)
        refine hK.out _ _ ?_ (fun hHeld => ?_)
        · exact ⟨J9.c0, J9.c1⟩
        clear hK K
        (try simp only [Act.put, List.setIfInBounds_toArray, List.set_cons_zero, List.set_cons_succ, List.getElem_toArray, List.getElem_cons_succ, List.getElem_cons_zero])
        refine wpAnyH_take (i := 9) (v := ?_) rfl (by kernel_rfl) (by kernel_rfl) (by kernel_rfl) (fun _ _ _ h => h) (Or.inl ⟨by rfl, ?_⟩) (by assumption) ?_
        rotate_left
        · intro w' hSw; (try dsimp only at hSw); go_simp; (try with_reducible rfl)
        (try simp only [Act.put, List.setIfInBounds_toArray, List.set_cons_zero, List.set_cons_succ, List.getElem_toArray, List.getElem_cons_succ, List.getElem_cons_zero])
        refine wpAnyH_done (by kernel_rfl) ?_ _
        have l9 := J9.lt
        have s0 := J9.c0
        have s1 := J9.c1
        rcases HRR.out with ⟨h1, h2, h3, h4⟩ | ⟨h1, h1', h2, h3, h4⟩ | ⟨h1, h1', h2, h4⟩
        · subst h2
          subst h3
          subst h4
          rw [h1]
          go_wp2_with fail
          refine (hlc_last _ 7 0 7 _ K9).mono ?_; rintro e w10 ⟨rfl, hb10⟩
          have HB10 := HB9.trans (hb10.mono HB9.size)
          have z10 := HB10.size
          clear hb10
          go_wp2_with (go_at_call 16; refine (known10 _).mono ?_; rintro e w11 ⟨rfl, hb11⟩)
          go_ret
          go_light
          exact ⟨rfl, HB10.trans (hb11.mono HB10.size)⟩
        · subst h2
          subst h3
          subst h4
          rw [h1, h1']
          go_wp2_with fail
          refine (hlc_last _ 7 0 7 _ K9).mono ?_; rintro e w10 ⟨rfl, hb10⟩
          have HB10 := HB9.trans (hb10.mono HB9.size)
          have z10 := HB10.size
          clear hb10
          go_wp2_with (go_at_call 16; refine (known10 _).mono ?_; rintro e w11 ⟨rfl, hb11⟩)
          go_ret
          go_light
          exact ⟨rfl, HB10.trans (hb11.mono HB10.size)⟩
        · subst h2
          rw [h1, h1']
          generalize hcm : cmp2 m' c' 0 3 = cm at *
          have HCM := Lib.hid hcm
          have hg : decide (0 ≤ cm) = true := by simpa using h4
          clear hcm
          go_wp2_with fail
          refine wp_region_held_drew (S := (fun w' => w'.cell? ⟨w.heap.size + 1, 0, none⟩ = some (.int .i64 0) ∧ w'.cell? ⟨w.heap.size + 1, 1, none⟩ = some (.int .i64 3))) (by kernel_rfl) ?_ (fun hHeld => ?_)
          · exact ⟨s0, s1⟩
          refine wpAnyH_take (i := 0) (v := ?_) rfl (by kernel_rfl) (by kernel_rfl) (by kernel_rfl) (fun _ _ _ h => h) (Or.inl ⟨by rfl, ?_⟩) (by assumption) ?_
          rotate_left
          · intro w' hSw; (try dsimp only at hSw); go_simp; (try with_reducible rfl)
          (try simp only [Act.put, List.setIfInBounds_toArray, List.set_cons_zero, List.set_cons_succ, List.getElem_toArray, List.getElem_cons_succ, List.getElem_cons_zero])
          refine wpAnyH_take (i := 1) (v := ?_) rfl (by kernel_rfl) (by kernel_rfl) (by kernel_rfl) (fun _ _ _ h => h) (Or.inl ⟨by rfl, ?_⟩) (by assumption) ?_
          rotate_left
          · intro w' hSw; (try dsimp only at hSw); go_simp; (try with_reducible rfl)
          (try simp only [Act.put, List.setIfInBounds_toArray, List.set_cons_zero, List.set_cons_succ, List.getElem_toArray, List.getElem_cons_succ, List.getElem_cons_zero])
          refine wpAnyH_take (i := 2) (v := ?_) rfl (by kernel_rfl) (by kernel_rfl) (by kernel_rfl) (fun _ _ _ h => h) (Or.inl ⟨by rfl, ?_⟩) (by assumption) ?_
          rotate_left
          · intro w' hSw; (try dsimp only at hSw); go_simp; (try with_reducible rfl)
          (try simp only [Act.put, List.setIfInBounds_toArray, List.set_cons_zero, List.set_cons_succ, List.getElem_toArray, List.getElem_cons_succ, List.getElem_cons_zero])
          refine wpAnyH_take (i := 3) (v := ?_) rfl (by kernel_rfl) (by kernel_rfl) (by kernel_rfl) (fun _ _ _ h => h) (Or.inl ⟨by rfl, ?_⟩) (by assumption) ?_
          rotate_left
          · intro w' hSw; (try dsimp only at hSw); go_simp; (try with_reducible rfl)
          (try simp only [Act.put, List.setIfInBounds_toArray, List.set_cons_zero, List.set_cons_succ, List.getElem_toArray, List.getElem_cons_succ, List.getElem_cons_zero])
          refine wpAnyH_take (i := 5) (v := ?_) rfl (by kernel_rfl) (by kernel_rfl) (by kernel_rfl) (fun _ _ _ h => h) (Or.inl ⟨by rfl, ?_⟩) (by assumption) ?_
          rotate_left
          · intro w' hSw; (try dsimp only at hSw); go_simp; (try with_reducible rfl)
          (try simp only [Act.put, List.setIfInBounds_toArray, List.set_cons_zero, List.set_cons_succ, List.getElem_toArray, List.getElem_cons_succ, List.getElem_cons_zero])
          refine wpAnyH_ready (rs := [4]) (by kernel_rfl) (by simp) ?_
          refine AllReadyH.cons rfl (fun K hK => ?_) (AllReadyH.nil)
          go_simp
          (go_at_call 23; refine (hlc_last _ m' c' 7 _ (by first | exact K9 | exact K9.drew)).mono ?_; rintro e u1 ⟨rfl, hb1⟩; have X1 : Below w9.heap.size w9 u1 := Below.trans (show Below w9.heap.size w9 _ from (by (repeat' (first | (with_reducible exact Below.refl _ _) | (with_reducible assumption) | (with_reducible refine Below.trans ?_ (Below.mono (by with_reducible assumption) ?_)) | (with_reducible refine Below.alloc ?_ ?_ _) | (with_reducible refine Below.setCell ?_ ?_ _) | (with_reducible refine below_drewN ?_ _) | (with_reducible refine Below.drew ?_) | go_size)))) (hb1.mono (Below.size (show Below w9.heap.size w9 _ from (by (repeat' (first | (with_reducible exact Below.refl _ _) | (with_reducible assumption) | (with_reducible refine Below.trans ?_ (Below.mono (by with_reducible assumption) ?_)) | (with_reducible refine Below.alloc ?_ ?_ _) | (with_reducible refine Below.setCell ?_ ?_ _) | (with_reducible refine below_drewN ?_ _) | (with_reducible refine Below.drew ?_) | go_size)))))))
          (try dsimp only)
          refine hK.out _ _ ?_ (fun hHeld => ?_)
          · exact ⟨(X1.cell (p := ⟨w.heap.size + 1, 0, none⟩) l9).trans s0, (X1.cell (p := ⟨w.heap.size + 1, 1, none⟩) l9).trans s1⟩
          clear hK K
          (try simp only [Act.put, List.setIfInBounds_toArray, List.set_cons_zero, List.set_cons_succ, List.getElem_toArray, List.getElem_cons_succ, List.getElem_cons_zero])
          refine wpAnyH_ready (rs := [6]) (by kernel_rfl) (by simp) ?_
          refine AllReadyH.cons rfl (fun K hK => ?_) (AllReadyH.nil)
          go_simp
          (go_at_call 26; refine (ref10_compare _ _ _ _ _).mono ?_; rw [HCM.out]; rintro e u2 ⟨rfl, hb2⟩; have X2 : Below w9.heap.size w9 u2 := Below.trans (show Below w9.heap.size w9 _ from (by (repeat' (first | (with_reducible exact Below.refl _ _) | (with_reducible assumption) | (with_reducible refine Below.trans ?_ (Below.mono (by with_reducible assumption) ?_)) | (with_reducible refine Below.alloc ?_ ?_ _) | (with_reducible refine Below.setCell ?_ ?_ _) | (with_reducible refine below_drewN ?_ _) | (with_reducible refine Below.drew ?_) | go_size)))) (hb2.mono (Below.size (show Below w9.heap.size w9 _ from (by (repeat' (first | (with_reducible exact Below.refl _ _) | (with_reducible assumption) | (with_reducible refine Below.trans ?_ (Below.mono (by with_reducible assumption) ?_)) | (with_reducible refine Below.alloc ?_ ?_ _) | (with_reducible refine Below.setCell ?_ ?_ _) | (with_reducible refine below_drewN ?_ _) | (with_reducible refine Below.drew ?_) | go_size)))))))
          (try dsimp only)
          refine hK.out _ _ ?_ (fun hHeld => ?_)
          · exact ⟨(X2.cell (p := ⟨w.heap.size + 1, 0, none⟩) l9).trans s0, (X2.cell (p := ⟨w.heap.size + 1, 1, none⟩) l9).trans s1⟩
          clear hK K
          (try simp only [Act.put, List.setIfInBounds_toArray, List.set_cons_zero, List.set_cons_succ, List.getElem_toArray, List.getElem_cons_succ, List.getElem_cons_zero])
          refine wpAnyH_take (i := 7) (v := ?_) rfl (by kernel_rfl) (by kernel_rfl) (by kernel_rfl) (fun _ _ _ h => h) (Or.inl ⟨by rfl, ?_⟩) (by assumption) ?_
          rotate_left
          · intro w' hSw; (try dsimp only at hSw); go_simp; (try with_reducible rfl)
          (try simp only [Act.put, List.setIfInBounds_toArray, List.set_cons_zero, List.set_cons_succ, List.getElem_toArray, List.getElem_cons_succ, List.getElem_cons_zero])
          refine wpAnyH_take (i := 8) (v := ?_) rfl (by kernel_rfl) (by kernel_rfl) (by kernel_rfl) (fun _ _ _ h => h) (Or.inl ⟨by rfl, ?_⟩) (by assumption) ?_
          rotate_left
          · intro w' hSw; (try dsimp only at hSw); go_simp; (try with_reducible rfl)
          (try simp only [Act.put, List.setIfInBounds_toArray, List.set_cons_zero, List.set_cons_succ, List.getElem_toArray, List.getElem_cons_succ, List.getElem_cons_zero])
          refine wpAnyH_take (i := 9) (v := ?_) rfl (by kernel_rfl) (by kernel_rfl) (by kernel_rfl) (fun _ _ _ h => h) (Or.inl ⟨by rfl, ?_⟩) (by assumption) ?_
          rotate_left
          · intro w' hSw; (try dsimp only at hSw); go_simp; (try with_reducible rfl)
          (try simp only [Act.put, List.setIfInBounds_toArray, List.set_cons_zero, List.set_cons_succ, List.getElem_toArray, List.getElem_cons_succ, List.getElem_cons_zero])
          refine wpAnyH_ready (rs := [10]) (by kernel_rfl) (by simp) ?_
          refine AllReadyH.cons rfl (fun K hK => ?_) (AllReadyH.nil)
          go_simp
          (go_at_call 16; refine (known10 _).mono ?_; rintro e u3 ⟨rfl, hb3⟩; have X3 : Below w9.heap.size w9 u3 := Below.trans (show Below w9.heap.size w9 _ from (by (repeat' (first | (with_reducible exact Below.refl _ _) | (with_reducible assumption) | (with_reducible refine Below.trans ?_ (Below.mono (by with_reducible assumption) ?_)) | (with_reducible refine Below.alloc ?_ ?_ _) | (with_reducible refine Below.setCell ?_ ?_ _) | (with_reducible refine below_drewN ?_ _) | (with_reducible refine Below.drew ?_) | go_size)))) (hb3.mono (Below.size (show Below w9.heap.size w9 _ from (by (repeat' (first | (with_reducible exact Below.refl _ _) | (with_reducible assumption) | (with_reducible refine Below.trans ?_ (Below.mono (by with_reducible assumption) ?_)) | (with_reducible refine Below.alloc ?_ ?_ _) | (with_reducible refine Below.setCell ?_ ?_ _) | (with_reducible refine below_drewN ?_ _) | (with_reducible refine Below.drew ?_) | go_size)))))))
          (try dsimp only)
          refine hK.out _ _ ?_ (fun hHeld => ?_)
          · exact ⟨(X3.cell (p := ⟨w.heap.size + 1, 0, none⟩) l9).trans s0, (X3.cell (p := ⟨w.heap.size + 1, 1, none⟩) l9).trans s1⟩
          clear hK K
          (try simp only [Act.put, List.setIfInBounds_toArray, List.set_cons_zero, List.set_cons_succ, List.getElem_toArray, List.getElem_cons_succ, List.getElem_cons_zero])
          refine wpAnyH_take (i := 11) (v := ?_) rfl (by kernel_rfl) (by kernel_rfl) (by kernel_rfl) (fun _ _ _ h => h) (Or.inl ⟨by rfl, ?_⟩) (by assumption) ?_
          rotate_left
          · intro w' hSw; (try dsimp only at hSw); go_simp; (try with_reducible rfl)
          (try simp only [Act.put, List.setIfInBounds_toArray, List.set_cons_zero, List.set_cons_succ, List.getElem_toArray, List.getElem_cons_succ, List.getElem_cons_zero])
          refine wpAnyH_take (i := 12) (v := ?_) rfl (by kernel_rfl) (by kernel_rfl) (by kernel_rfl) (fun _ _ _ h => h) (Or.inl ⟨by rfl, ?_⟩) (by assumption) ?_
          rotate_left
          · intro w' hSw; (try dsimp only at hSw); go_simp; (try with_reducible rfl)
          (try simp only [Act.put, List.setIfInBounds_toArray, List.set_cons_zero, List.set_cons_succ, List.getElem_toArray, List.getElem_cons_succ, List.getElem_cons_zero])
          refine wpAnyH_done (by kernel_rfl) ?_ _
          have HBE := HB9.trans (X3.mono HB9.size)
          clear hb1 hb2 hb3
          go_wp2
          go_ret
          go_light
          exact ⟨rfl, HBE⟩
end Go.Proofs.Ytmbopdabbegbiaa
