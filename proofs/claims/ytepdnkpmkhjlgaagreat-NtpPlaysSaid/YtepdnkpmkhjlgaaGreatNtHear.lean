/- NTP: Hear of a packet: what the code makes of it (written by gen/nthear.py). -/
import Derived.Test.YtepdnkpmkhjlgaaGreatTk9
import Derived.Test.YtepdnkpmkhjlgaaGreatM9L
import Derived.Test.YtepdnkpmkhjlgaaGreatM9H
set_option linter.unusedSimpArgs false
set_option linter.unusedVariables false
namespace Go.Proofs.YtepdnkpmkhjlgaaGreat
open Go.RowKit Go.Sort

set_option maxRecDepth 100000 in
set_option maxHeartbeats 16000000 in
theorem ntp_hear_p {w : World} {b bc bs : Nat} {A : Option Addr} {n cc : Nat} {x : Int} {z : Nat → Int} {N : Nat} {K : Cs} (h : Nc layP w b bc bs A n cc x z N K) (hK : K.Ok N) (hN : N ≤ 8) (i : Nat) (hi : i < N) (count : Int) (hc : count ≤ 9223372036854775807) (bv : Value) (p : Pk) (hp : p.ok) (hdec : Calls Tryz.prog 39 #[bv] w fun e w' => e = .returned (.tuple #[pkVal p, .int .i64 0]) ∧ Below w.heap.size w w') :
    Calls Tryz.prog 17 #[.pointer (some ⟨b, 0, none⟩), .int .i64 i, .int .i64 count, bv] w fun e w' => e = .returned (.int .i64 (hearK rstP z n x N K i count p).1) ∧ Nc layP w' b bc bs A n cc x z N (hearK rstP z n x N K i count p).2 ∧ But (Ft b bc bs) w w' := by
  obtain ⟨pl, pm, ps, pd, pr, po, pv, pt⟩ := p
  have HHS := Lib.hid (ntp_has h i hi)
  have HDC := Lib.hid hdec
  have HH := Lib.hid (fun (W : World) (k : Below w.heap.size w W) => h.below k)
  have HPK := Lib.hid hp
  have HKK := Lib.hid hK
  have hlb := h.lt
  have hls := h.sl
  have hlc := h.clk.lt
  clear hdec hp hK h
  go_enter Tryz.func17, Tryz.ntmps17
  go_wp2_with fail
  refine HHS.out.mono ?_; rintro e w' ⟨rfl, rfl⟩
  go_wp2_with fail
  refine HDC.out.mono ?_; rintro e w1 ⟨rfl, k1⟩
  have k2 : Below w.heap.size w (w1.alloc (.cells #[.int .i64 pl, .int .i64 pm, .int .i64 ps, .int .i64 pd, .int .i64 pr, .int .u64 po, .int .u64 pv, .int .u64 pt] 93)) := k1.alloc k1.size _
  have HK2 := Lib.hid (HH.out _ k2)
  have HB2 := Lib.hid k2
  have Y := Lib.hid (Box8.new w1 pl pm ps pd pr po pv pt)
  have zr := k1.size
  have c3 := HK2.out.c3
  obtain ⟨x0, x1, x2, x3, x4, x5⟩ := HK2.out.six i hi
  have li : (i : Int) < (N : Int) := by omega
  clear k1 k2
  by_cases hm : pm = 4
  · subst hm
    have HV1 := Lib.hid (show hearK rstP z n x N K i count ⟨pl, 4, ps, pd, pr, po, pv, pt⟩ = if (K.S i).q = 0 ∨ po ≠ (K.S i).q then (14, K) else if pl = 3 ∨ ps < 1 ∨ 15 < ps then (15, clrK K i) else if pv = 0 ∨ pt = 0 then (3, clrK K i) else hear1 rstP z n x N (readK (clrK K i) count) i ⟨pl, 4, ps, pd, pr, po, pv, pt⟩ from by unfold hearK; rw [if_neg (by simp)])
    obtain ⟨q, hq⟩ : ∃ q, (K.S i).q = q := ⟨_, rfl⟩
    have hq0 := (HKK.out.srv i hi).q0
    rw [hq] at x0 HV1 hq0
    have HQ := Lib.hid hq
    clear hq
    go_wp2_with fail
    by_cases ho : q = 0 ∨ po ≠ q
    · as_aux_lemma =>
      rw [if_pos ho] at HV1
      have hcs : (q == 0) = true ∨ ((q == 0) = false ∧ (po != q) = true) := by
        rcases (show q = 0 ∨ (q ≠ 0 ∧ po ≠ q) from by omega) with e | ⟨e1, e2⟩
        · exact .inl (by simpa using e)
        · exact .inr ⟨by simpa using e1, by simpa using e2⟩
      clear ho
      obtain ⟨y0, y1, y2, y3, y4, y5, y6, y7, yl⟩ := Y.out
      rcases hcs with t1 | ⟨t1, t2⟩
      · go_quiet (fail)
        go_wp2_with fail
        go_ret
        exact ⟨by simp only [HV1.out]; rfl, by simp only [HV1.out]; exact HK2.out.drewN _, But.of_below (below_drewN HB2.out _)⟩
      · go_quiet (fail)
        go_wp2_with fail
        go_ret
        exact ⟨by simp only [HV1.out]; rfl, by simp only [HV1.out]; exact HK2.out.drewN _, But.of_below (below_drewN HB2.out _)⟩
    · as_aux_lemma =>
      rw [if_neg ho] at HV1
      have t1 : (q == 0) = false := by simp only [beq_eq_false_iff_ne]; omega
      have t2 : (po != q) = false := by simp only [bne_eq_false_iff_eq]; omega
      clear ho
      obtain ⟨y0, y1, y2, y3, y4, y5, y6, y7, yl⟩ := Y.out
      go_quiet (fail)
      have HK3 := Lib.hid (HK2.out.drewN nq)
      have HB3 := Lib.hid (below_drewN HB2.out nq)
      have Y3 := Lib.hid (Y.out.drewN nq)
      have hG : w.heap.size ≤ w1.heap.size := zr
      clear HK2 HB2 Y y0 y1 y2 y3 y4 y5 y6 y7 yl c3 x0 x1 x2 x3 x4 x5 zr
      generalize (w1.alloc (.cells #[.int .i64 pl, .int .i64 4, .int .i64 ps, .int .i64 pd, .int .i64 pr, .int .u64 po, .int .u64 pv, .int .u64 pt] 93)).drewN nq = V at *
      generalize w1.heap.size = G at *
      have HK4 : Hid (Nc layP (V.setCell ⟨bs, i * 6, none⟩ (.int .u64 0)) b bc bs A n cc x z N (clrK K i)) := Lib.hid (HK3.out.store i 0 hi (by omega) { K.S i with q := 0 } (.int .u64 0) rfl (fun q hq hne => by unfold layP; simp [hne]))
      have HF4 : Hid (But (Ft b bc bs) w (V.setCell ⟨bs, i * 6, none⟩ (.int .u64 0))) := Lib.hid ((But.of_below HB3.out).setCell (p := ⟨bs, i * 6, none⟩) (fun _ => .inr (.inr rfl)) (.int .u64 0))
      have Y4 := Lib.hid (Y3.out.other (p := ⟨bs, i * 6, none⟩) (by show bs ≠ G; omega) (.int .u64 0))
      have f0 := HK3.out.sf (i * 6)
      have xq := (HK3.out.six i hi).1
      have lV := HK3.out.sl
      obtain ⟨y0, y1, y2, y3, y4, y5, y6, y7, yl⟩ := Y4.out
      have c0 := HK4.out.c0
      clear HK3 HB3 Y3
      by_cases hl : pl = 3 ∨ ps < 1 ∨ 15 < ps
      · rw [if_pos hl] at HV1
        have hcs : (pl == 3) = true ∨ ((pl == 3) = false ∧ decide (ps < 1) = true) ∨ ((pl == 3) = false ∧ decide (ps < 1) = false ∧ decide (ps > 15) = true) := by
          rcases (show pl = 3 ∨ (pl ≠ 3 ∧ ps < 1) ∨ (pl ≠ 3 ∧ ¬ ps < 1 ∧ 15 < ps) from by omega) with e | ⟨e, e1⟩ | ⟨e, e1, e2⟩
          · exact .inl (by simpa using e)
          · exact .inr (.inl ⟨by simpa using e, by simpa using e1⟩)
          · exact .inr (.inr ⟨by simpa using e, by simpa using e1, by simpa using e2⟩)
        clear hl
        rcases hcs with t3 | ⟨t3, t4⟩ | ⟨t3, t4, t5⟩
        all_goals
          go_wp2_with fail
          go_ret
          exact ⟨by simp only [HV1.out]; rfl, by simp only [HV1.out]; exact HK4.out, HF4.out⟩
      · rw [if_neg hl] at HV1
        have t3 : (pl == 3) = false := by simp only [beq_eq_false_iff_ne]; omega
        have t4 : decide (ps < 1) = false := by simp; omega
        have t5 : decide (ps > 15) = false := by simp; omega
        clear hl
        by_cases hz : pv = 0 ∨ pt = 0
        · rw [if_pos hz] at HV1
          have hcs : (pv == 0) = true ∨ ((pv == 0) = false ∧ (pt == 0) = true) := by
            rcases (show pv = 0 ∨ (pv ≠ 0 ∧ pt = 0) from by omega) with e | ⟨e, e1⟩
            · exact .inl (by simpa using e)
            · exact .inr ⟨by simpa using e, by simpa using e1⟩
          clear hz
          rcases hcs with t6 | ⟨t6, t7⟩
          all_goals
            go_wp2_with fail
            go_ret
            exact ⟨by simp only [HV1.out]; rfl, by simp only [HV1.out]; exact HK4.out, HF4.out⟩
        · rw [if_neg hz] at HV1
          have t6 : (pv == 0) = false := by simp only [beq_eq_false_iff_ne]; omega
          have t7 : (pt == 0) = false := by simp only [beq_eq_false_iff_ne]; omega
          clear hz
          have hok4 := HKK.out.clr i hi
          have HRD := Lib.hid (slew_read_all bc K.c K.t K.l count _ HK4.out.clk hok4.clk hc)
          have HOK5 := Lib.hid (hok4.read count hc)
          have hcc : count ≤ rc K.c count := by unfold rc; split <;> omega
          clear hok4
          go_wp2_with fail
          refine HRD.out.mono ?_; rintro e w5 ⟨rfl, ho5, k5⟩
          have HK5 : Hid (Nc layP w5 b bc bs A n cc x z N (readK (clrK K i) count)) := Lib.hid (HK4.out.clock ho5 k5)
          have HF5 : Hid (But (Ft b bc bs) w w5) := Lib.hid (HF4.out.trans (T := Ft b bc bs) (But.of_only ho5 (.inr (.inl rfl))) (fun _ _ q => q))
          have hbcG : bc < w.heap.size := hlc
          have Y5 := Lib.hid (Y4.out.only ho5 (by omega))
          have hKc : (readK (clrK K i) count).c = rc K.c count := rfl
          have hKt : (readK (clrK K i) count).t = rt K.c K.t K.l count := rfl
          have hz5 := ho5.size
          clear ho5 k5 HK4 HF4 Y4 y0 y1 y2 y3 y4 y5 y6 y7 yl c0 f0 xq HRD t3 t4 t5 t6 t7 t1 t2
          rw [← hKt]
          rw [← hKc] at hcc
          clear hKc hKt
          generalize readK (clrK K i) count = K2 at *
          have hh := HOK5.out.clk
          have hh0 : 0 ≤ K2.t ∧ K2.t ≤ 9223372036854775807 := by unfold Ok3 at hh; omega
          have HTM := Lib.hid (ntp_times HK5.out ⟨pl, 4, ps, pd, pr, po, pv, pt⟩ K2.t HPK.out hh0.1 hh0.2)
          have HTB := Lib.hid (tmsV_bd HK5.out.tb ⟨pl, 4, ps, pd, pr, po, pv, pt⟩ HPK.out K2.t hh0.1 hh0.2)
          rw [hear1_eq] at HV1
          obtain ⟨y0, y1, y2, y3, y4, y5, y6, y7, yl⟩ := Y5.out
          obtain ⟨hd, hhd⟩ : ∃ hd, K2.t = hd := ⟨_, rfl⟩
          rw [hhd] at HTM HTB HV1 hh0
          rw [hhd]
          have HHD := Lib.hid hhd
          clear hhd hh
          obtain ⟨TT, hTT⟩ : ∃ TT, tmsV z n x ⟨pl, 4, ps, pd, pr, po, pv, pt⟩ hd = TT := ⟨_, rfl⟩
          rw [hTT] at HTM HTB HV1
          clear hTT
          obtain ⟨s2, s3, er⟩ := TT
          simp only at HTM HTB HV1
          go_wp2_with fail
          refine HTM.out.mono ?_; rintro e w6 ⟨rfl, k6⟩
          have HK6 := Lib.hid (HK5.out.below k6)
          have HF6 := Lib.hid (HF5.out.next k6)
          have Y6 := Lib.hid (Y5.out.below k6 yl)
          have hz6 := k6.size
          clear k6 HK5 HF5 Y5 HTM y0 y1 y2 y3 y4 y5 y6 y7 yl
          by_cases he : er = 0
          · subst he
            rw [if_neg (by simp)] at HV1
            have HSM := Lib.hid (fun W : World => ntp_sample (K2.S i).a s2 s3 hd ⟨pl, 4, ps, pd, pr, po, pv, pt⟩ W (HOK5.out.srv i hi).a0 (HOK5.out.srv i hi).a1 HTB.out.1.1 HTB.out.1.2 HTB.out.2.1 HTB.out.2.2 hh0.1 hh0.2 HPK.out)
            have HSB := Lib.hid (smpV_bd (K2.S i).a s2 s3 hd pd pr)
            rw [hear2_eq, HHD.out] at HV1
            obtain ⟨QQ, hQQ⟩ : ∃ QQ, smpV (K2.S i).a s2 s3 hd pd pr = QQ := ⟨_, rfl⟩
            simp only at HSM HV1
            rw [hQQ] at HSM HSB HV1
            clear hQQ
            obtain ⟨lo, hi', er⟩ := QQ
            simp only at HSM HSB HV1
            have HTA : Hid (∀ ad, A = some ad → ad.block < w.heap.size) := Lib.hid (fun ad ha => by
              have ht := HH.out w (Below.refl _ _)
              obtain ⟨B, O, hA, hB, _⟩ := ht.tab (by have := ht.tb.1; omega)
              rw [ha] at hA
              injection hA with hA
              subst hA
              exact hB)
            obtain ⟨y0, y1, y2, y3, y4, y5, y6, y7, yl⟩ := Y6.out
            have xa := (HK6.out.six i hi).2.1
            obtain ⟨sa, hsa⟩ : ∃ sa, (K2.S i).a = sa := ⟨_, rfl⟩
            rw [hsa] at xa HSM
            have HSA := Lib.hid hsa
            clear hsa
            go_wp2_with fail
            refine wp_region_held_drew (S := fun w' => w'.cell? ⟨bs, i * 6 + 1, none⟩ = some (.int .i64 sa) ∧ w'.cell? ⟨G, 0, none⟩ = some (.int .i64 pl) ∧ w'.cell? ⟨G, 1, none⟩ = some (.int .i64 4) ∧ w'.cell? ⟨G, 2, none⟩ = some (.int .i64 ps) ∧ w'.cell? ⟨G, 3, none⟩ = some (.int .i64 pd) ∧ w'.cell? ⟨G, 4, none⟩ = some (.int .i64 pr) ∧ w'.cell? ⟨G, 5, none⟩ = some (.int .u64 po) ∧ w'.cell? ⟨G, 6, none⟩ = some (.int .u64 pv) ∧ w'.cell? ⟨G, 7, none⟩ = some (.int .u64 pt)) (by kernel_rfl) ?_ (fun hHeld => ?_)
            · exact ⟨xa, y0, y1, y2, y3, y4, y5, y6, y7⟩
            have HK10 := Lib.hid HK6.out.drew
            have HF10 := Lib.hid HF6.out.drew
            have Y10 := Lib.hid Y6.out.drew
            have hzV : w.heap.size ≤ w6.drew.heap.size := HF6.out.size
            clear HK6 HF6 Y6 y0 y1 y2 y3 y4 y5 y6 y7 yl xa
            generalize w6.drew = V10 at *
            refine tk9 0 ?_
            refine tk9 1 ?_
            refine tk9 2 ?_
            refine tk9 3 ?_
            refine tk9 4 ?_
            refine tk9 5 ?_
            refine tk9 6 ?_
            refine tk9 7 ?_
            refine wpAnyH_ready (rs := [8, 12]) (by kernel_rfl) (by simp) ?_
            refine AllReadyH.cons rfl (fun K hK => ?_) (AllReadyH.cons rfl (fun K hK => ?_) (AllReadyH.nil))
            · as_aux_lemma =>
              go_simp
              (go_at_call 41; refine (HSM.out V10).mono ?_; rintro e w11 ⟨rfl, k11⟩)
              have HK11 := Lib.hid (HK10.out.below k11)
              have HF11 := Lib.hid (HF10.out.next k11)
              have Y11 := Lib.hid (Y10.out.below k11 Y10.out.lt)
              have hz11 := k11.size
              clear k11
              (try dsimp only)
              refine hK.out _ _ ?_ (fun hHeld => ?_)
              · exact ⟨(by have := (HK11.out.six i hi).2.1; rwa [HSA.out] at this), Y11.out.c0, Y11.out.c1, Y11.out.c2, Y11.out.c3, Y11.out.c4, Y11.out.c5, Y11.out.c6, Y11.out.c7⟩
              clear hK K
              refine pt9 ?_
              refine tk9 9 ?_
              refine tk9 10 ?_
              refine tk9 11 ?_
              refine wpAnyH_ready (rs := [12]) (by kernel_rfl) (by simp) ?_
              refine AllReadyH.cons rfl (fun K hK => ?_) (AllReadyH.nil)
              go_simp
              have k12 : Below w11.heap.size w11 (w11.alloc (.cells #[.int .i64 0, .int .i64 0] 67)) := (Below.refl _ _).alloc (Nat.le_refl _) _
              have HK12 := Lib.hid (HK11.out.below k12)
              have HF12 := Lib.hid (HF11.out.next k12)
              have Y12 := Lib.hid (Y11.out.below k12 Y11.out.lt)
              have J12 := Lib.hid (Ints2.new w11 0 0 67)
              have hp12 : w.heap.size ≤ w11.heap.size := Nat.le_trans hzV hz11
              have yG : G < w11.heap.size := Y11.out.lt
              clear k12
              (try dsimp only)
              refine hK.out _ _ ?_ (fun hHeld => ?_)
              · exact ⟨(by have := (HK12.out.six i hi).2.1; rwa [HSA.out] at this), Y12.out.c0, Y12.out.c1, Y12.out.c2, Y12.out.c3, Y12.out.c4, Y12.out.c5, Y12.out.c6, Y12.out.c7⟩
              clear hK K
              refine pt9 ?_
              generalize w11.alloc (.cells #[.int .i64 0, .int .i64 0] 67) = V12 at *
              generalize w11.heap.size = P12 at *
              obtain ⟨j0, j1, jf0, jf1, jl⟩ := J12.out
              refine wpAnyH_ready (rs := [13]) (by kernel_rfl) (by simp) ?_
              refine AllReadyH.cons rfl (fun K hK => ?_) (AllReadyH.nil)
              go_simp
              have kO : Only P12 V12 ((V12.setCell ⟨P12, 0, none⟩ (.int .i64 lo)).setCell ⟨P12, 1, none⟩ (.int .i64 hi')) := ((Only.refl _ V12).setB _).setB _
              have kU : But (fun k => k = P12) V12 ((V12.setCell ⟨P12, 0, none⟩ (.int .i64 lo)).setCell ⟨P12, 1, none⟩ (.int .i64 hi')) := But.of_only kO rfl
              have HK20 := Lib.hid (HK12.out.but kU (by omega) (by omega) (by omega) (fun ad ha => by have := HTA.out ad ha; omega))
              have HF20 : Hid (But (Ft b bc bs) w ((V12.setCell ⟨P12, 0, none⟩ (.int .i64 lo)).setCell ⟨P12, 1, none⟩ (.int .i64 hi'))) := Lib.hid ⟨kU.os.trans HF12.out.os, kU.tape.trans HF12.out.tape, kU.output.trans HF12.out.output, Nat.le_trans HF12.out.size kU.size, fun q hq hs => (kU.block q (by have := HF12.out.size; omega) (by omega)).trans (HF12.out.block q hq hs)⟩
              have Y20 := Lib.hid (Y12.out.only kO (by omega))
              have JL := Lib.hid ((J12.out.set0 lo).set1 hi')
              clear kU kO HK12 HF12 Y12 J12 j0 j1 jf0 jf1 jl
              (try dsimp only)
              refine hK.out _ _ ?_ (fun hHeld => ?_)
              · exact ⟨(by have := (HK20.out.six i hi).2.1; rwa [HSA.out] at this), Y20.out.c0, Y20.out.c1, Y20.out.c2, Y20.out.c3, Y20.out.c4, Y20.out.c5, Y20.out.c6, Y20.out.c7⟩
              clear hK K
              refine pt9 ?_
              generalize ((V12.setCell ⟨P12, 0, none⟩ (.int .i64 lo)).setCell ⟨P12, 1, none⟩ (.int .i64 hi')) = V20 at *
              generalize P12 = P20 at *
              refine tk9 14 ?_
              refine wpAnyH_done (by kernel_rfl) ?_ _
              clear hHeld
              by_cases he : er = 0
              · subst he
                rw [if_neg (by simp)] at HV1
                obtain ⟨l0, l1, lf0, lf1, ll⟩ := JL.out
                go_wp2_with fail
                refine wp_region_held_drew (S := fun w' => w'.cell? ⟨P20, 0, none⟩ = some (.int .i64 lo) ∧ w'.cell? ⟨P20, 1, none⟩ = some (.int .i64 hi')) (by kernel_rfl) ?_ (fun hHeld => ?_)
                · exact ⟨l0, l1⟩
                have HKV := Lib.hid HK20.out.drew
                have HFV := Lib.hid HF20.out.drew
                have JV := Lib.hid JL.out.drew
                clear HK20 HF20 JL l0 l1 lf0 lf1 ll
                generalize V20.drew = V at *
                obtain ⟨x0, x1, x2, x3, x4, x5⟩ := HKV.out.six i hi
                have f2 := HKV.out.sf (i * 6 + 2)
                have r1 := HKV.out.store i 2 hi (by omega) { K2.S i with has := true } (.bool true) rfl (fun q hq hne => by unfold layP; simp [hne])
                have J1 := JV.out.other (p := ⟨bs, i * 6 + 2, none⟩) (by show bs ≠ P20; omega) (.bool true)
                have R1 := Lib.hid r1
                have r2 := r1.store i 3 hi (by omega) { K2.S i with has := true, h := hd } (.int .i64 hd) rfl (fun q hq hne => by simp only [updS_same]; unfold layP; simp [hne])
                have J2 := J1.other (p := ⟨bs, i * 6 + 3, none⟩) (by show bs ≠ P20; omega) (.int .i64 hd)
                have R2 := Lib.hid r2
                have r3 := r2.store i 4 hi (by omega) { K2.S i with has := true, h := hd, lo := lo } (.int .i64 lo) rfl (fun q hq hne => by simp only [updS_same]; unfold layP; simp [hne])
                have J3 := J2.other (p := ⟨bs, i * 6 + 4, none⟩) (by show bs ≠ P20; omega) (.int .i64 lo)
                have r4 := r3.store i 5 hi (by omega) { K2.S i with has := true, h := hd, lo := lo, hi := hi' } (.int .i64 hi') rfl (fun q hq hne => by simp only [updS_same]; rcases (show q = 0 ∨ q = 1 ∨ q = 2 ∨ q = 3 ∨ q = 4 from by omega) with rfl | rfl | rfl | rfl | rfl <;> simp [layP])
                have J4 := J3.other (p := ⟨bs, i * 6 + 5, none⟩) (by show bs ≠ P20; omega) (.int .i64 hi')
                have R4 : Hid (Nc layP ((((V.setCell ⟨bs, i * 6 + 2, none⟩ (.bool true)).setCell ⟨bs, i * 6 + 3, none⟩ (.int .i64 hd)).setCell ⟨bs, i * 6 + 4, none⟩ (.int .i64 lo)).setCell ⟨bs, i * 6 + 5, none⟩ (.int .i64 hi')) b bc bs A n cc x z N (smpK K2 i hd lo hi')) := Lib.hid (r4.congr (S' := (smpK K2 i hd lo hi').S) (fun j _ => by simp only [smpK, updS_upd]))
                have HF4 : Hid (But (Ft b bc bs) w ((((V.setCell ⟨bs, i * 6 + 2, none⟩ (.bool true)).setCell ⟨bs, i * 6 + 3, none⟩ (.int .i64 hd)).setCell ⟨bs, i * 6 + 4, none⟩ (.int .i64 lo)).setCell ⟨bs, i * 6 + 5, none⟩ (.int .i64 hi'))) := Lib.hid ((((HFV.out.setCell (p := ⟨bs, i * 6 + 2, none⟩) (fun _ => .inr (.inr rfl)) (.bool true)).setCell (p := ⟨bs, i * 6 + 3, none⟩) (fun _ => .inr (.inr rfl)) (.int .i64 hd)).setCell (p := ⟨bs, i * 6 + 4, none⟩) (fun _ => .inr (.inr rfl)) (.int .i64 lo)).setCell (p := ⟨bs, i * 6 + 5, none⟩) (fun _ => .inr (.inr rfl)) (.int .i64 hi'))
                have JJ1 := Lib.hid J1
                have JJ2 := Lib.hid J2
                have JJ4 := Lib.hid J4
                have l0 := JV.out.c0
                have l1 := JV.out.c1
                clear r1 r2 r3 r4 J1 J2 J3 J4
                refine tk9 0 ?_
                refine tk9 1 ?_
                refine tk9 2 ?_
                refine tk9 3 ?_
                refine tk9 4 ?_
                refine tk9 5 ?_
                refine tk9 6 ?_
                refine wpAnyH_ready (rs := [7]) (by kernel_rfl) (by simp) ?_
                refine AllReadyH.cons rfl (fun K hK => ?_) (AllReadyH.nil)
                go_simp
                (try dsimp only)
                refine hK.out _ _ ?_ (fun hHeld => ?_)
                · exact ⟨JJ1.out.c0, JJ1.out.c1⟩
                clear hK K
                refine pt9 ?_
                have l0 := JJ1.out.c0
                have l1 := JJ1.out.c1
                obtain ⟨x0, x1, x2, x3, x4, x5⟩ := R1.out.six i hi
                have f3 := R1.out.sf (i * 6 + 3)
                refine tk9 8 ?_
                refine tk9 9 ?_
                refine wpAnyH_ready (rs := [10]) (by kernel_rfl) (by simp) ?_
                refine AllReadyH.cons rfl (fun K hK => ?_) (AllReadyH.nil)
                go_simp
                (try dsimp only)
                refine hK.out _ _ ?_ (fun hHeld => ?_)
                · exact ⟨JJ2.out.c0, JJ2.out.c1⟩
                clear hK K
                refine pt9 ?_
                have l0 := JJ2.out.c0
                have l1 := JJ2.out.c1
                obtain ⟨x0, x1, x2, x3, x4, x5⟩ := R2.out.six i hi
                have f4 := R2.out.sf (i * 6 + 4)
                have f5 := R2.out.sf (i * 6 + 5)
                refine tk9 11 ?_
                refine tk9 12 ?_
                refine wpAnyH_ready (rs := [13]) (by kernel_rfl) (by simp) ?_
                refine AllReadyH.cons rfl (fun K hK => ?_) (AllReadyH.nil)
                go_simp
                (try dsimp only)
                refine hK.out _ _ ?_ (fun hHeld => ?_)
                · exact ⟨JJ4.out.c0, JJ4.out.c1⟩
                clear hK K
                refine pt9 ?_
                refine wpAnyH_done (by kernel_rfl) ?_ _
                have HOK6 := Lib.hid (HOK5.out.smp i hi hd lo hi' hh0.1 hh0.2 HSB.out.1 HSB.out.2)
                have HTU := Lib.hid (ntp_turn R4.out HOK6.out hN count hcc)
                have e3 : (smpK K2 i hd lo hi').t = hd := HHD.out
                rw [e3] at HTU
                clear l0 l1 x0 x1 x2 x3 x4 x5 f2 f3 f4 f5 e3 hHeld R1 R2 JJ1 JJ2 JJ4 JV HKV HFV
                generalize ((((V.setCell ⟨bs, i * 6 + 2, none⟩ (.bool true)).setCell ⟨bs, i * 6 + 3, none⟩ (.int .i64 hd)).setCell ⟨bs, i * 6 + 4, none⟩ (.int .i64 lo)).setCell ⟨bs, i * 6 + 5, none⟩ (.int .i64 hi')) = W9 at *
                go_wp2_with fail
                refine HTU.out.mono ?_; rintro e w30 ⟨rfl, hk30, hb30⟩
                have HK30 := Lib.hid hk30
                have HF30 := Lib.hid (HF4.out.trans (T := Ft b bc bs) hb30 (fun _ _ q => q))
                clear hk30 hb30
                go_wp2_with fail
                go_ret
                exact ⟨by simp only [HV1.out]; rfl, by simp only [HV1.out]; exact HK30.out, HF30.out⟩
              · rw [if_pos he] at HV1
                have te : (er != 0) = true := by simpa using he
                clear he
                go_wp2_with fail
                go_ret
                exact ⟨by simp only [HV1.out]; rfl, by simp only [HV1.out]; exact HK20.out, HF20.out⟩
            · as_aux_lemma =>
              go_simp
              have k12 : Below V10.heap.size V10 (V10.alloc (.cells #[.int .i64 0, .int .i64 0] 67)) := (Below.refl _ _).alloc (Nat.le_refl _) _
              have HK12 := Lib.hid (HK10.out.below k12)
              have HF12 := Lib.hid (HF10.out.next k12)
              have Y12 := Lib.hid (Y10.out.below k12 Y10.out.lt)
              have J12 := Lib.hid (Ints2.new V10 0 0 67)
              have yG : G < V10.heap.size := Y10.out.lt
              have hlV : V10.heap.size < (V10.alloc (.cells #[.int .i64 0, .int .i64 0] 67)).heap.size := by simp
              clear k12
              (try dsimp only)
              refine hK.out _ _ ?_ (fun hHeld => ?_)
              · exact ⟨(by have := (HK12.out.six i hi).2.1; rwa [HSA.out] at this), Y12.out.c0, Y12.out.c1, Y12.out.c2, Y12.out.c3, Y12.out.c4, Y12.out.c5, Y12.out.c6, Y12.out.c7⟩
              clear hK K
              refine pt9 ?_
              generalize V10.alloc (.cells #[.int .i64 0, .int .i64 0] 67) = V12 at *
              generalize V10.heap.size = P12 at *
              refine wpAnyH_ready (rs := [8]) (by kernel_rfl) (by simp) ?_
              refine AllReadyH.cons rfl (fun K hK => ?_) (AllReadyH.nil)
              go_simp
              (go_at_call 41; refine (HSM.out V12).mono ?_; rintro e w13 ⟨rfl, k13⟩)
              have HK13 := Lib.hid (HK12.out.below k13)
              have HF13 := Lib.hid (HF12.out.next k13)
              have Y13 := Lib.hid (Y12.out.below k13 Y12.out.lt)
              have J13 := Lib.hid (J12.out.below k13 hlV)
              clear k13
              (try dsimp only)
              refine hK.out _ _ ?_ (fun hHeld => ?_)
              · exact ⟨(by have := (HK13.out.six i hi).2.1; rwa [HSA.out] at this), Y13.out.c0, Y13.out.c1, Y13.out.c2, Y13.out.c3, Y13.out.c4, Y13.out.c5, Y13.out.c6, Y13.out.c7⟩
              clear hK K
              refine pt9 ?_
              refine tk9 9 ?_
              refine tk9 10 ?_
              refine tk9 11 ?_
              obtain ⟨j0, j1, jf0, jf1, jl⟩ := J13.out
              refine wpAnyH_ready (rs := [13]) (by kernel_rfl) (by simp) ?_
              refine AllReadyH.cons rfl (fun K hK => ?_) (AllReadyH.nil)
              go_simp
              have kO : Only P12 w13 ((w13.setCell ⟨P12, 0, none⟩ (.int .i64 lo)).setCell ⟨P12, 1, none⟩ (.int .i64 hi')) := ((Only.refl _ w13).setB _).setB _
              have kU : But (fun k => k = P12) w13 ((w13.setCell ⟨P12, 0, none⟩ (.int .i64 lo)).setCell ⟨P12, 1, none⟩ (.int .i64 hi')) := But.of_only kO rfl
              have HK20 := Lib.hid (HK13.out.but kU (by omega) (by omega) (by omega) (fun ad ha => by have := HTA.out ad ha; omega))
              have HF20 : Hid (But (Ft b bc bs) w ((w13.setCell ⟨P12, 0, none⟩ (.int .i64 lo)).setCell ⟨P12, 1, none⟩ (.int .i64 hi'))) := Lib.hid ⟨kU.os.trans HF13.out.os, kU.tape.trans HF13.out.tape, kU.output.trans HF13.out.output, Nat.le_trans HF13.out.size kU.size, fun q hq hs => (kU.block q (by have := HF13.out.size; omega) (by omega)).trans (HF13.out.block q hq hs)⟩
              have Y20 := Lib.hid (Y13.out.only kO (by omega))
              have JL := Lib.hid ((J13.out.set0 lo).set1 hi')
              clear kU kO HK13 HF13 Y13 J13 j0 j1 jf0 jf1 jl
              (try dsimp only)
              refine hK.out _ _ ?_ (fun hHeld => ?_)
              · exact ⟨(by have := (HK20.out.six i hi).2.1; rwa [HSA.out] at this), Y20.out.c0, Y20.out.c1, Y20.out.c2, Y20.out.c3, Y20.out.c4, Y20.out.c5, Y20.out.c6, Y20.out.c7⟩
              clear hK K
              refine pt9 ?_
              generalize ((w13.setCell ⟨P12, 0, none⟩ (.int .i64 lo)).setCell ⟨P12, 1, none⟩ (.int .i64 hi')) = V20 at *
              generalize P12 = P20 at *
              refine tk9 14 ?_
              refine wpAnyH_done (by kernel_rfl) ?_ _
              clear hHeld
              by_cases he : er = 0
              · subst he
                rw [if_neg (by simp)] at HV1
                obtain ⟨l0, l1, lf0, lf1, ll⟩ := JL.out
                go_wp2_with fail
                refine wp_region_held_drew (S := fun w' => w'.cell? ⟨P20, 0, none⟩ = some (.int .i64 lo) ∧ w'.cell? ⟨P20, 1, none⟩ = some (.int .i64 hi')) (by kernel_rfl) ?_ (fun hHeld => ?_)
                · exact ⟨l0, l1⟩
                have HKV := Lib.hid HK20.out.drew
                have HFV := Lib.hid HF20.out.drew
                have JV := Lib.hid JL.out.drew
                clear HK20 HF20 JL l0 l1 lf0 lf1 ll
                generalize V20.drew = V at *
                obtain ⟨x0, x1, x2, x3, x4, x5⟩ := HKV.out.six i hi
                have f2 := HKV.out.sf (i * 6 + 2)
                have r1 := HKV.out.store i 2 hi (by omega) { K2.S i with has := true } (.bool true) rfl (fun q hq hne => by unfold layP; simp [hne])
                have J1 := JV.out.other (p := ⟨bs, i * 6 + 2, none⟩) (by show bs ≠ P20; omega) (.bool true)
                have R1 := Lib.hid r1
                have r2 := r1.store i 3 hi (by omega) { K2.S i with has := true, h := hd } (.int .i64 hd) rfl (fun q hq hne => by simp only [updS_same]; unfold layP; simp [hne])
                have J2 := J1.other (p := ⟨bs, i * 6 + 3, none⟩) (by show bs ≠ P20; omega) (.int .i64 hd)
                have R2 := Lib.hid r2
                have r3 := r2.store i 4 hi (by omega) { K2.S i with has := true, h := hd, lo := lo } (.int .i64 lo) rfl (fun q hq hne => by simp only [updS_same]; unfold layP; simp [hne])
                have J3 := J2.other (p := ⟨bs, i * 6 + 4, none⟩) (by show bs ≠ P20; omega) (.int .i64 lo)
                have r4 := r3.store i 5 hi (by omega) { K2.S i with has := true, h := hd, lo := lo, hi := hi' } (.int .i64 hi') rfl (fun q hq hne => by simp only [updS_same]; rcases (show q = 0 ∨ q = 1 ∨ q = 2 ∨ q = 3 ∨ q = 4 from by omega) with rfl | rfl | rfl | rfl | rfl <;> simp [layP])
                have J4 := J3.other (p := ⟨bs, i * 6 + 5, none⟩) (by show bs ≠ P20; omega) (.int .i64 hi')
                have R4 : Hid (Nc layP ((((V.setCell ⟨bs, i * 6 + 2, none⟩ (.bool true)).setCell ⟨bs, i * 6 + 3, none⟩ (.int .i64 hd)).setCell ⟨bs, i * 6 + 4, none⟩ (.int .i64 lo)).setCell ⟨bs, i * 6 + 5, none⟩ (.int .i64 hi')) b bc bs A n cc x z N (smpK K2 i hd lo hi')) := Lib.hid (r4.congr (S' := (smpK K2 i hd lo hi').S) (fun j _ => by simp only [smpK, updS_upd]))
                have HF4 : Hid (But (Ft b bc bs) w ((((V.setCell ⟨bs, i * 6 + 2, none⟩ (.bool true)).setCell ⟨bs, i * 6 + 3, none⟩ (.int .i64 hd)).setCell ⟨bs, i * 6 + 4, none⟩ (.int .i64 lo)).setCell ⟨bs, i * 6 + 5, none⟩ (.int .i64 hi'))) := Lib.hid ((((HFV.out.setCell (p := ⟨bs, i * 6 + 2, none⟩) (fun _ => .inr (.inr rfl)) (.bool true)).setCell (p := ⟨bs, i * 6 + 3, none⟩) (fun _ => .inr (.inr rfl)) (.int .i64 hd)).setCell (p := ⟨bs, i * 6 + 4, none⟩) (fun _ => .inr (.inr rfl)) (.int .i64 lo)).setCell (p := ⟨bs, i * 6 + 5, none⟩) (fun _ => .inr (.inr rfl)) (.int .i64 hi'))
                have JJ1 := Lib.hid J1
                have JJ2 := Lib.hid J2
                have JJ4 := Lib.hid J4
                have l0 := JV.out.c0
                have l1 := JV.out.c1
                clear r1 r2 r3 r4 J1 J2 J3 J4
                refine tk9 0 ?_
                refine tk9 1 ?_
                refine tk9 2 ?_
                refine tk9 3 ?_
                refine tk9 4 ?_
                refine tk9 5 ?_
                refine tk9 6 ?_
                refine wpAnyH_ready (rs := [7]) (by kernel_rfl) (by simp) ?_
                refine AllReadyH.cons rfl (fun K hK => ?_) (AllReadyH.nil)
                go_simp
                (try dsimp only)
                refine hK.out _ _ ?_ (fun hHeld => ?_)
                · exact ⟨JJ1.out.c0, JJ1.out.c1⟩
                clear hK K
                refine pt9 ?_
                have l0 := JJ1.out.c0
                have l1 := JJ1.out.c1
                obtain ⟨x0, x1, x2, x3, x4, x5⟩ := R1.out.six i hi
                have f3 := R1.out.sf (i * 6 + 3)
                refine tk9 8 ?_
                refine tk9 9 ?_
                refine wpAnyH_ready (rs := [10]) (by kernel_rfl) (by simp) ?_
                refine AllReadyH.cons rfl (fun K hK => ?_) (AllReadyH.nil)
                go_simp
                (try dsimp only)
                refine hK.out _ _ ?_ (fun hHeld => ?_)
                · exact ⟨JJ2.out.c0, JJ2.out.c1⟩
                clear hK K
                refine pt9 ?_
                have l0 := JJ2.out.c0
                have l1 := JJ2.out.c1
                obtain ⟨x0, x1, x2, x3, x4, x5⟩ := R2.out.six i hi
                have f4 := R2.out.sf (i * 6 + 4)
                have f5 := R2.out.sf (i * 6 + 5)
                refine tk9 11 ?_
                refine tk9 12 ?_
                refine wpAnyH_ready (rs := [13]) (by kernel_rfl) (by simp) ?_
                refine AllReadyH.cons rfl (fun K hK => ?_) (AllReadyH.nil)
                go_simp
                (try dsimp only)
                refine hK.out _ _ ?_ (fun hHeld => ?_)
                · exact ⟨JJ4.out.c0, JJ4.out.c1⟩
                clear hK K
                refine pt9 ?_
                refine wpAnyH_done (by kernel_rfl) ?_ _
                have HOK6 := Lib.hid (HOK5.out.smp i hi hd lo hi' hh0.1 hh0.2 HSB.out.1 HSB.out.2)
                have HTU := Lib.hid (ntp_turn R4.out HOK6.out hN count hcc)
                have e3 : (smpK K2 i hd lo hi').t = hd := HHD.out
                rw [e3] at HTU
                clear l0 l1 x0 x1 x2 x3 x4 x5 f2 f3 f4 f5 e3 hHeld R1 R2 JJ1 JJ2 JJ4 JV HKV HFV
                generalize ((((V.setCell ⟨bs, i * 6 + 2, none⟩ (.bool true)).setCell ⟨bs, i * 6 + 3, none⟩ (.int .i64 hd)).setCell ⟨bs, i * 6 + 4, none⟩ (.int .i64 lo)).setCell ⟨bs, i * 6 + 5, none⟩ (.int .i64 hi')) = W9 at *
                go_wp2_with fail
                refine HTU.out.mono ?_; rintro e w30 ⟨rfl, hk30, hb30⟩
                have HK30 := Lib.hid hk30
                have HF30 := Lib.hid (HF4.out.trans (T := Ft b bc bs) hb30 (fun _ _ q => q))
                clear hk30 hb30
                go_wp2_with fail
                go_ret
                exact ⟨by simp only [HV1.out]; rfl, by simp only [HV1.out]; exact HK30.out, HF30.out⟩
              · rw [if_pos he] at HV1
                have te : (er != 0) = true := by simpa using he
                clear he
                go_wp2_with fail
                go_ret
                exact ⟨by simp only [HV1.out]; rfl, by simp only [HV1.out]; exact HK20.out, HF20.out⟩
          · as_aux_lemma =>
            rw [if_pos he] at HV1
            have te : (er != 0) = true := by simpa using he
            clear he
            go_wp2_with fail
            go_ret
            exact ⟨by simp only [HV1.out]; rfl, by simp only [HV1.out]; exact HK6.out, HF6.out⟩
  · as_aux_lemma =>
    have tm : (pm != 4) = true := by simpa using hm
    have HV := Lib.hid (show hearK rstP z n x N K i count ⟨pl, pm, ps, pd, pr, po, pv, pt⟩ = (3, K) from by unfold hearK; rw [if_pos hm])
    clear hm
    obtain ⟨y0, y1, y2, y3, y4, y5, y6, y7, yl⟩ := Y.out
    go_wp2_with fail
    go_ret
    exact ⟨by simp only [HV.out]; rfl, by simp only [HV.out]; exact HK2.out, But.of_below HB2.out⟩
end Go.Proofs.YtepdnkpmkhjlgaaGreat
