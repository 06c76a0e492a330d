/- NTP: Hear of a packet: what the reference makes of it (written by gen/rhear.py). -/
import Derived.Test.YtepdnkpmkhjlgaaGreatM9Q
import Derived.Test.YtepdnkpmkhjlgaaGreatM9P
import Derived.Test.YtepdnkpmkhjlgaaGreatM9O
set_option linter.unusedSimpArgs false
set_option linter.unusedVariables false
namespace Go.Proofs.YtepdnkpmkhjlgaaGreat
open Go.RowKit Go.Sort

theorem r_utc_max (A : Option Addr) (n c : Nat) (x : Int) (z : Nat → Int) (w : World) (hz : FlatAt w A 2 n z) (hT : IsTab z n x) :
    Calls Tryz.prog 43 #[.agg #[.slice A n c, .int .i64 x], .int .i64 9223372036854775807] w fun e w' => e = .returned (.tuple #[.agg #[.int .i64 0, .int .i64 0], .int .i64 11]) ∧ Below w.heap.size w w' := by
  have hn : n ≤ maxLen := by have := hT.2.1; unfold maxLen; omega
  have HB0 : Below w.heap.size w ((w.alloc (.cells #[.slice A n c, .int .i64 x] 24)).alloc (.cells #[.int .i64 0, .int .i64 0] 105)) := by (repeat' (first | (with_reducible exact Below.refl _ _) | (with_reducible assumption) | (with_reducible refine Below.trans ?_ (Below.mono (by with_reducible assumption) ?_)) | (with_reducible refine Below.alloc ?_ ?_ _) | (with_reducible refine Below.setCell ?_ ?_ _) | (with_reducible refine below_drewN ?_ _) | (with_reducible refine Below.drew ?_) | go_size))
  have HIS := Lib.hid (ref3_is A n c x z _ true (hz.below HB0) hn ⟨fun _ => hT, fun _ => rfl⟩)
  have l0 : w.heap.size + 1 < ((w.alloc (.cells #[.slice A n c, .int .i64 x] 24)).alloc (.cells #[.int .i64 0, .int .i64 0] 105)).heap.size := by simp
  have I0 : Ints2 ((w.alloc (.cells #[.slice A n c, .int .i64 x] 24)).alloc (.cells #[.int .i64 0, .int .i64 0] 105)) (w.heap.size + 1) 0 0 := by
    have := Ints2.new (w.alloc (.cells #[.slice A n c, .int .i64 x] 24)) 0 0 105
    rwa [World.size_alloc] at this
  clear hz
  go_enter Tryz.func43, Tryz.ntmps43
  go_wp2_with fail
  refine HIS.out.mono ?_; rintro e w1 ⟨rfl, k1⟩
  have I1 := I0.below k1 l0
  have HB1 := HB0.trans (k1.mono HB0.size)
  have J := (I1.set0 0).set1 0
  have JC := Lib.hid (And.intro J.c0 J.c1)
  obtain ⟨i0, i1, if0, if1, il⟩ := I1
  have HB2 := Lib.hid ((HB1.setCell (p := ⟨w.heap.size + 1, 0, none⟩) (Nat.le_succ _) (.int .i64 0)).setCell (p := ⟨w.heap.size + 1, 1, none⟩) (Nat.le_succ _) (.int .i64 0))
  clear k1 HB0 HB1 I0 J l0 HIS
  go_wp2_with fail
  have j0 := JC.out.1
  have j1 := JC.out.2
  refine bodyPost_ret (v := .tuple #[.agg #[.int .i64 0, .int .i64 0], .int .i64 11]) (by simp [results, Tryz.results43, go_sem, j0, j1]) rfl ⟨rfl, HB2.out⟩
theorem ref4_add4 (a b d f : Int) (B : Nat) (w : World) (ha : I64 a) (hb : I64 b) (hd : I64 d) (hf : I64 f) (h0 : w.cell? ⟨B, 0, none⟩ = some (.int .i64 a)) (h1 : w.cell? ⟨B, 1, none⟩ = some (.int .i64 b)) (h2 : w.cell? ⟨B, 2, none⟩ = some (.int .i64 d)) (h3 : w.cell? ⟨B, 3, none⟩ = some (.int .i64 f)) :
    Calls Tryz.prog 37 #[.slice (some ⟨B, 0, none⟩) 4 4] w fun e w' => e = .returned (.int .i64 (addS (addS (addS a b) d) f)) ∧ w = w' := by
  have h := ref4_add (fun j => if j = 0 then a else if j = 1 then b else if j = 2 then d else f) (some ⟨B, 0, none⟩) 4 4 w (by omega) (fun _ => ⟨B, 0, rfl, by
    intro j hj
    rcases (show j = 0 ∨ j = 1 ∨ j = 2 ∨ j = 3 from by omega) with rfl | rfl | rfl | rfl
    · exact ⟨by simpa using h0, by simpa [I64] using ha⟩
    · exact ⟨by simpa using h1, by simpa [I64] using hb⟩
    · exact ⟨by simpa using h2, by simpa [I64] using hd⟩
    · exact ⟨by simpa using h3, by simpa [I64] using hf⟩⟩)
  have e : sumS (fun j => if j = 0 then a else if j = 1 then b else if j = 2 then d else f) 4 = addS (addS (addS a b) d) f := by
    show addS (addS (addS (addS 0 a) b) d) f = _
    unfold I64 at ha
    rw [addS_in (a := 0) (b := a) (by omega) (by omega), Int.zero_add]
  rwa [e] at h
set_option maxRecDepth 100000 in
set_option maxHeartbeats 16000000 in
theorem r_hear_p {w : World} {b bc bs : Nat} {A : Option Addr} {n cc : Nat} {x : Int} {z : Nat → Int} {N : Nat} {K : Cs} (h : Nc layR w b bc bs A n cc x z N K) (hK : K.Ok N) (hN : N ≤ 8) (i : Nat) (hi : i < N) (count : Int) (hc : count ≤ 9223372036854775807) (bv : Value) (p : Pk) (hp : p.ok) (hdec : Calls Tryz.prog 29 #[bv] w fun e w' => e = .returned (.tuple #[pkVal p, .int .i64 0]) ∧ Below w.heap.size w w') :
    Calls Tryz.prog 20 #[.pointer (some ⟨b, 0, none⟩), .int .i64 i, .int .i64 count, bv] w fun e w' => e = .returned (.int .i64 (hearK rstR z n x N K i count p).1) ∧ Nc layR w' b bc bs A n cc x z N (hearK rstR z n x N K i count p).2 ∧ But (Ft b bc bs) w w' := by
  obtain ⟨pl, pm, ps, pd, pr, po, pv, pt⟩ := p
  have HHS := Lib.hid (r_is h i hi)
  have HDC := Lib.hid hdec
  have HH := Lib.hid (fun (W : World) (k : Below w.heap.size w W) => h.below k)
  have HPK := Lib.hid hp
  have HKK := Lib.hid hK
  have hlb := h.lt
  have hls := h.sl
  have hlc := h.clk.lt
  clear hdec hp hK h
  go_enter Tryz.func20, Tryz.ntmps20
  go_wp2_with fail
  refine HHS.out.mono ?_; rintro e w' ⟨rfl, rfl⟩
  go_wp2_with fail
  refine HDC.out.mono ?_; rintro e w1 ⟨rfl, k1⟩
  have k2 : Below w.heap.size w (w1.alloc (.cells #[.int .i64 pl, .int .i64 pm, .int .i64 ps, .int .i64 pd, .int .i64 pr, .int .u64 po, .int .u64 pv, .int .u64 pt] 53)) := k1.alloc k1.size _
  have HK2 := Lib.hid (HH.out _ k2)
  have HB2 := Lib.hid k2
  have Y := Lib.hid (Box8.newR w1 pl pm ps pd pr po pv pt)
  have zr := k1.size
  have c3 := HK2.out.c3
  obtain ⟨x0, x1, x2, x3, x4, x5⟩ := HK2.out.sixR i hi
  have li : (i : Int) < (N : Int) := by omega
  clear k1 k2
  by_cases hm : pm = 4
  · subst hm
    have HV1 := Lib.hid (show hearK rstR z n x N K i count ⟨pl, 4, ps, pd, pr, po, pv, pt⟩ = if (K.S i).q = 0 ∨ po ≠ (K.S i).q then (14, K) else if pl = 3 ∨ ps < 1 ∨ 15 < ps then (15, clrK K i) else if pv = 0 ∨ pt = 0 then (3, clrK K i) else hear1 rstR z n x N (readK (clrK K i) count) i ⟨pl, 4, ps, pd, pr, po, pv, pt⟩ from by unfold hearK; rw [if_neg (by simp)])
    obtain ⟨q, hq⟩ : ∃ q, (K.S i).q = q := ⟨_, rfl⟩
    have hq0 := (HKK.out.srv i hi).q0
    rw [hq] at x0 HV1 hq0
    have HQ := Lib.hid hq
    clear hq
    go_wp2_with fail
    by_cases ho : q = 0 ∨ po ≠ q
    · as_aux_lemma =>
      rw [if_pos ho] at HV1
      have hcs : (q == 0) = true ∨ ((q == 0) = false ∧ (po != q) = true) := by
        rcases (show q = 0 ∨ (q ≠ 0 ∧ po ≠ q) from by omega) with e | ⟨e1, e2⟩
        · exact .inl (by simpa using e)
        · exact .inr ⟨by simpa using e1, by simpa using e2⟩
      clear ho
      obtain ⟨y0, y1, y2, y3, y4, y5, y6, y7, yl⟩ := Y.out
      rcases hcs with t1 | ⟨t1, t2⟩
      · go_quiet (fail)
        go_wp2_with fail
        go_ret
        exact ⟨by simp only [HV1.out]; rfl, by simp only [HV1.out]; exact HK2.out.drewN _, But.of_below (below_drewN HB2.out _)⟩
      · go_quiet (fail)
        go_wp2_with fail
        go_ret
        exact ⟨by simp only [HV1.out]; rfl, by simp only [HV1.out]; exact HK2.out.drewN _, But.of_below (below_drewN HB2.out _)⟩
    · as_aux_lemma =>
      rw [if_neg ho] at HV1
      have t1 : (q == 0) = false := by simp only [beq_eq_false_iff_ne]; omega
      have t2 : (po != q) = false := by simp only [bne_eq_false_iff_eq]; omega
      clear ho
      obtain ⟨y0, y1, y2, y3, y4, y5, y6, y7, yl⟩ := Y.out
      go_quiet (fail)
      have HK3 := Lib.hid (HK2.out.drewN nq)
      have HB3 := Lib.hid (below_drewN HB2.out nq)
      have Y3 := Lib.hid (Y.out.drewN nq)
      have hG : w.heap.size ≤ w1.heap.size := zr
      clear HK2 HB2 Y y0 y1 y2 y3 y4 y5 y6 y7 yl c3 x0 x1 x2 x3 x4 x5 zr
      generalize (w1.alloc (.cells #[.int .i64 pl, .int .i64 4, .int .i64 ps, .int .i64 pd, .int .i64 pr, .int .u64 po, .int .u64 pv, .int .u64 pt] 53)).drewN nq = V at *
      generalize w1.heap.size = G at *
      have HK4 : Hid (Nc layR (V.setCell ⟨bs, i * 6, none⟩ (.int .u64 0)) b bc bs A n cc x z N (clrK K i)) := Lib.hid (HK3.out.store i 0 hi (by omega) { K.S i with q := 0 } (.int .u64 0) rfl (fun q hq hne => by unfold layR; simp [hne]))
      have HF4 : Hid (But (Ft b bc bs) w (V.setCell ⟨bs, i * 6, none⟩ (.int .u64 0))) := Lib.hid ((But.of_below HB3.out).setCell (p := ⟨bs, i * 6, none⟩) (fun _ => .inr (.inr rfl)) (.int .u64 0))
      have Y4 := Lib.hid (Y3.out.other (p := ⟨bs, i * 6, none⟩) (by show bs ≠ G; omega) (.int .u64 0))
      have f0 := HK3.out.sf (i * 6)
      have xq := (HK3.out.sixR i hi).1
      have lV := HK3.out.sl
      obtain ⟨y0, y1, y2, y3, y4, y5, y6, y7, yl⟩ := Y4.out
      have c0 := HK4.out.c0
      clear HK3 HB3 Y3
      by_cases hl : pl = 3 ∨ ps < 1 ∨ 15 < ps
      · rw [if_pos hl] at HV1
        have hcs : (pl == 3) = true ∨ ((pl == 3) = false ∧ decide (ps < 1) = true) ∨ ((pl == 3) = false ∧ decide (ps < 1) = false ∧ decide (ps > 15) = true) := by
          rcases (show pl = 3 ∨ (pl ≠ 3 ∧ ps < 1) ∨ (pl ≠ 3 ∧ ¬ ps < 1 ∧ 15 < ps) from by omega) with e | ⟨e, e1⟩ | ⟨e, e1, e2⟩
          · exact .inl (by simpa using e)
          · exact .inr (.inl ⟨by simpa using e, by simpa using e1⟩)
          · exact .inr (.inr ⟨by simpa using e, by simpa using e1, by simpa using e2⟩)
        clear hl
        rcases hcs with t3 | ⟨t3, t4⟩ | ⟨t3, t4, t5⟩
        all_goals
          go_wp2_with fail
          go_ret
          exact ⟨by simp only [HV1.out]; rfl, by simp only [HV1.out]; exact HK4.out, HF4.out⟩
      · rw [if_neg hl] at HV1
        have t3 : (pl == 3) = false := by simp only [beq_eq_false_iff_ne]; omega
        have t4 : decide (ps < 1) = false := by simp; omega
        have t5 : decide (ps > 15) = false := by simp; omega
        clear hl
        by_cases hz : pv = 0 ∨ pt = 0
        · rw [if_pos hz] at HV1
          have hcs : (pv == 0) = true ∨ ((pv == 0) = false ∧ (pt == 0) = true) := by
            rcases (show pv = 0 ∨ (pv ≠ 0 ∧ pt = 0) from by omega) with e | ⟨e, e1⟩
            · exact .inl (by simpa using e)
            · exact .inr ⟨by simpa using e, by simpa using e1⟩
          clear hz
          rcases hcs with t6 | ⟨t6, t7⟩
          all_goals
            go_wp2_with fail
            go_ret
            exact ⟨by simp only [HV1.out]; rfl, by simp only [HV1.out]; exact HK4.out, HF4.out⟩
        · rw [if_neg hz] at HV1
          have t6 : (pv == 0) = false := by simp only [beq_eq_false_iff_ne]; omega
          have t7 : (pt == 0) = false := by simp only [beq_eq_false_iff_ne]; omega
          clear hz
          have hok4 := HKK.out.clr i hi
          have HRD := Lib.hid (ref8_read_all bc K.c K.t K.l count _ HK4.out.clk hok4.clk hc)
          have HOK5 := Lib.hid (hok4.read count hc)
          have hcc : count ≤ rc K.c count := by unfold rc; split <;> omega
          clear hok4
          go_wp2_with fail
          refine HRD.out.mono ?_; rintro e w5 ⟨rfl, ho5, k5⟩
          have HK5 : Hid (Nc layR w5 b bc bs A n cc x z N (readK (clrK K i) count)) := Lib.hid (HK4.out.clock ho5 k5)
          have HF5 : Hid (But (Ft b bc bs) w w5) := Lib.hid (HF4.out.trans (T := Ft b bc bs) (But.of_only ho5 (.inr (.inl rfl))) (fun _ _ q => q))
          have hbcG : bc < w.heap.size := hlc
          have Y5 := Lib.hid (Y4.out.only ho5 (by omega))
          have hKc : (readK (clrK K i) count).c = rc K.c count := rfl
          have hKt : (readK (clrK K i) count).t = rt K.c K.t K.l count := rfl
          have hz5 := ho5.size
          clear ho5 k5 HK4 HF4 Y4 y0 y1 y2 y3 y4 y5 y6 y7 yl c0 f0 xq HRD t3 t4 t5 t6 t7 t1 t2
          rw [← hKt]
          rw [← hKc] at hcc
          clear hKc hKt
          generalize readK (clrK K i) count = K2 at *
          have hh := HOK5.out.clk
          have hh0 : 0 ≤ K2.t ∧ K2.t ≤ 9223372036854775807 := by unfold Ok3 at hh; omega
          obtain ⟨hd, hhd⟩ : ∃ hd, K2.t = hd := ⟨_, rfl⟩
          rw [hhd] at hh0
          rw [hhd]
          have HHD := Lib.hid hhd
          clear hhd hh
          unfold hear1 at HV1
          rw [HHD.out] at HV1
          simp only at HV1
          have c1 := HK5.out.c1
          have c2 := HK5.out.c2
          by_cases hm : hd = 9223372036854775807
          · as_aux_lemma =>
            subst hm
            rw [if_pos rfl] at HV1
            have HU := Lib.hid (r_utc_max A n cc x z w5 HK5.out.tab HK5.out.tb)
            go_wp2_with fail
            refine HU.out.mono ?_; rintro e w6 ⟨rfl, k6⟩
            have kk := k6.alloc k6.size (.cells #[.int .i64 0, .int .i64 0] 105)
            have HK6 := Lib.hid (HK5.out.below kk)
            have HF6 := Lib.hid (HF5.out.next kk)
            have Y6 := Lib.hid (Y5.out.below kk Y5.out.lt)
            clear k6 kk HK5 HF5 Y5 c1 c2
            go_wp2_with fail
            go_ret
            exact ⟨by simp only [HV1.out]; rfl, by simp only [HV1.out]; exact HK6.out, HF6.out⟩
          · rw [if_neg hm] at HV1
            have hb := utcD_bd (z := z) (n := n) hd hh0.1 hh0.2
            have HU := Lib.hid (ref4_utc A n cc x hd z w5 HK5.out.tab HK5.out.tb hh0.1 (by omega))
            have HM2 := Lib.hid (fun (W : World) (k : Below w5.heap.size w5 W) => r_moment (HK5.out.below k) pv (utcD z n hd) HPK.out.v.1 HPK.out.v.2 hb.1 hb.2)
            have HM3 := Lib.hid (fun (W : World) (k : Below w5.heap.size w5 W) => r_moment (HK5.out.below k) pt (utcD z n hd) HPK.out.t.1 HPK.out.t.2 hb.1 hb.2)
            have HT2 := Lib.hid (momV_bd HK5.out.tb pv (utcD z n hd) hb.1 hb.2 HPK.out.v.1)
            have HT3 := Lib.hid (momV_bd HK5.out.tb pt (utcD z n hd) hb.1 hb.2 HPK.out.t.1)
            generalize momV z n x pv (utcD z n hd) = q2 at *
            generalize momV z n x pt (utcD z n hd) = q3 at *
            generalize utcM z n hd = mm at *
            generalize utcD z n hd = dd at *
            obtain ⟨a2, e2⟩ := q2
            obtain ⟨a3, e3⟩ := q3
            simp only at HM2 HM3 HT2 HT3 HV1
            clear hb hm
            go_wp2_with fail
            refine HU.out.mono ?_; rintro e w6 ⟨rfl, k6⟩
            have k7 := k6.alloc k6.size (.cells #[.int .i64 dd, .int .i64 mm] 105)
            have HK7 := Lib.hid (HK5.out.below k7)
            have HF7 := Lib.hid (HF5.out.next k7)
            have Y7 := Lib.hid (Y5.out.below k7 Y5.out.lt)
            have KB7 := Lib.hid k7
            have u0 : (w6.alloc (.cells #[.int .i64 dd, .int .i64 mm] 105)).cell? ⟨w6.heap.size, 0, none⟩ = some (.int .i64 dd) := by simp
            have lu : w6.heap.size < (w6.alloc (.cells #[.int .i64 dd, .int .i64 mm] 105)).heap.size := by simp
            clear k6 k7 HK5 HF5 Y5 c1 c2 HU
            obtain ⟨y0, y1, y2, y3, y4, y5, y6, y7, yl⟩ := Y7.out
            go_wp2_with fail
            generalize w6.alloc (.cells #[.int .i64 dd, .int .i64 mm] 105) = W7 at *
            generalize w6.heap.size = gu at *
            refine (HM2.out W7 KB7.out).mono ?_; rintro e w8 ⟨rfl, k8⟩
            have HK8 := Lib.hid (HK7.out.below k8)
            have HF8 := Lib.hid (HF7.out.next k8)
            have Y8 := Lib.hid (Y7.out.below k8 Y7.out.lt)
            have KB8 := Lib.hid (KB7.out.trans (k8.mono KB7.out.size))
            have u0 := (k8.cell (p := ⟨gu, 0, none⟩) lu).trans u0
            clear k8 lu y0 y1 y2 y3 y4 y5 y6 y7 yl HK7 HF7 Y7 KB7
            by_cases he2 : e2 = 0
            · subst he2
              rw [if_neg (by simp)] at HV1
              obtain ⟨y0, y1, y2, y3, y4, y5, y6, y7, yl⟩ := Y8.out
              go_wp2_with fail
              refine (HM3.out w8 KB8.out).mono ?_; rintro e w9 ⟨rfl, k9⟩
              have HK9 := Lib.hid (HK8.out.below k9)
              have HF9 := Lib.hid (HF8.out.next k9)
              have Y9 := Lib.hid (Y8.out.below k9 Y8.out.lt)
              clear k9 u0 y0 y1 y2 y3 y4 y5 y6 y7 yl HK8 HF8 Y8 KB8
              by_cases he3 : e3 = 0
              · subst he3
                rw [if_neg (by simp)] at HV1
                by_cases hlt : a3 < a2
                · as_aux_lemma =>
                  have tl : decide (a3 < a2) = true := by simpa using hlt
                  unfold hear2 at HV1
                  rw [if_pos hlt] at HV1
                  clear hlt
                  go_wp2_with fail
                  go_ret
                  exact ⟨by simp only [HV1.out]; rfl, by simp only [HV1.out]; exact HK9.out, HF9.out⟩
                · have tl : decide (a3 < a2) = false := by simp; omega
                  have HLT := Lib.hid hlt
                  unfold hear2 at HV1
                  rw [if_neg hlt, HHD.out] at HV1
                  have sB := HOK5.out.srv i hi
                  have sa0 := sB.a0
                  have sa1 := sB.a1
                  clear hlt sB
                  obtain ⟨sa, hsa⟩ : ∃ sa, (K2.S i).a = sa := ⟨_, rfl⟩
                  have xa := (HK9.out.sixR i hi).2.1
                  rw [hsa] at xa HV1 sa0 sa1
                  have HSA := Lib.hid hsa
                  clear hsa
                  have b0 := HT2.out.1
                  have b1 := HT2.out.2
                  have c0 := HT3.out.1
                  have c1 := HT3.out.2
                  have h0 := hh0.1
                  have h1 := hh0.2
                  have n1 : IntKind.i64.wrap (-sa) = -sa := IntWalk.i64_in _ (by omega)
                  have n2 : IntKind.i64.wrap (-a3) = -a3 := IntWalk.i64_in _ (by omega)
                  have n3 : IntKind.i64.wrap (-hd) = -hd := IntWalk.i64_in _ (by omega)
                  have ia : I64 (-sa) := by unfold I64; omega
                  have it3 : I64 (-a3) := by unfold I64; omega
                  have it3' : I64 a3 := by unfold I64; omega
                  have it2 : I64 a2 := by unfold I64; omega
                  have ihd : I64 hd := by unfold I64; omega
                  have ihd' : I64 (-hd) := by unfold I64; omega
                  have HD := Lib.hid fun (B : Nat) (W : World) q0 q1 q2 q3 => ref4_add4 hd (-sa) (-a3) a2 B W ihd ia it3 it2 q0 q1 q2 q3
                  have HO := Lib.hid fun (B : Nat) (W : World) q0 q1 q2 q3 => ref4_add4 a2 (-sa) a3 (-hd) B W it2 ia it3' ihd' q0 q1 q2 q3
                  have oB := addS_bd (addS (addS a2 (-sa)) a3) (-hd)
                  have hdv : addS (addS (addS hd (-sa)) (-a3)) a2 = dlyV hd sa a2 a3 := rfl
                  rw [hdv] at HD
                  have hov : offV hd sa a2 a3 = addS (addS (addS a2 (-sa)) a3) (-hd) / 2 := rfl
                  rw [hov] at HV1
                  generalize addS (addS (addS a2 (-sa)) a3) (-hd) = ov at *
                  generalize dlyV hd sa a2 a3 = dv at *
                  clear ia it3 it3' it2 ihd ihd' hdv hov b0 b1 c0 c1 h0 h1 sa0 sa1
                  go_wp2_with fail
                  refine (HD.out _ _ ?_ ?_ ?_ ?_).mono ?_; iterate 4 (focus (simp [go_sem]; done))
                  rintro e w' ⟨rfl, rfl⟩
                  have k10 : Below w9.heap.size w9 (w9.alloc (.cells #[.int .i64 hd, .int .i64 (-sa), .int .i64 (-a3), .int .i64 a2] 3)) := (Below.refl _ _).alloc (Nat.le_refl _) _
                  have HK10 := Lib.hid (HK9.out.below k10)
                  have HF10 := Lib.hid (HF9.out.next k10)
                  have Y10 := Lib.hid (Y9.out.below k10 Y9.out.lt)
                  clear k10
                  have xa := (HK10.out.sixR i hi).2.1
                  rw [HSA.out] at xa
                  clear HK9 HF9 Y9
                  generalize w9.alloc (.cells #[.int .i64 hd, .int .i64 (-sa), .int .i64 (-a3), .int .i64 a2] 3) = w10 at *
                  by_cases hr : dv < 0 ∨ 16000000000 < dv
                  · as_aux_lemma =>
                    rw [if_pos hr] at HV1
                    by_cases hr0 : dv < 0
                    · have td : decide (dv < 0) = true := by simpa using hr0
                      clear hr hr0
                      go_wp2_with fail
                      go_ret
                      exact ⟨by simp only [HV1.out]; rfl, by simp only [HV1.out]; exact HK10.out, HF10.out⟩
                    · have td : decide (dv < 0) = false := by simpa using hr0
                      have td2 : decide (dv > 16000000000) = true := by simp; omega
                      have td3 : decide (16000000000 < dv) = true := by simp; omega
                      clear hr hr0
                      go_wp2_with fail
                      go_ret
                      exact ⟨by simp only [HV1.out]; rfl, by simp only [HV1.out]; exact HK10.out, HF10.out⟩
                  · rw [if_neg hr] at HV1
                    have hr1 : 0 ≤ dv := by omega
                    have hr2 : dv ≤ 16000000000 := by omega
                    have td : decide (dv < 0) = false := by simp; omega
                    have td2 : decide (dv > 16000000000) = false := by simp; omega
                    have td3 : decide (16000000000 < dv) = false := by simp; omega
                    clear hr
                    have HFL := Lib.hid (fun W : World => ref4_floor2 ov W (by omega) (by omega))
                    go_wp2_with fail
                    refine (HO.out _ _ ?_ ?_ ?_ ?_).mono ?_; iterate 4 (focus (simp [go_sem]; done))
                    rintro e w' ⟨rfl, rfl⟩
                    have k11 : Below w10.heap.size w10 (w10.alloc (.cells #[.int .i64 a2, .int .i64 (-sa), .int .i64 a3, .int .i64 (-hd)] 3)) := (Below.refl _ _).alloc (Nat.le_refl _) _
                    have HK11 := Lib.hid (HK10.out.below k11)
                    have HF11 := Lib.hid (HF10.out.next k11)
                    have Y11 := Lib.hid (Y10.out.below k11 Y10.out.lt)
                    clear k11
                    clear HK10 HF10 Y10 xa
                    generalize w10.alloc (.cells #[.int .i64 a2, .int .i64 (-sa), .int .i64 a3, .int .i64 (-hd)] 3) = w11 at *
                    go_wp2_with fail
                    refine (HFL.out _).mono ?_; rintro e w' ⟨rfl, rfl⟩
                    have hq1 : dv.tdiv 2 = dv / 2 := Int.tdiv_eq_ediv_of_nonneg hr1
                    have pd0 := HPK.out.d.1
                    have pd1 := HPK.out.d.2
                    have pr0 := HPK.out.r.1
                    have pr1 := HPK.out.r.2
                    simp only at pd0 pd1 pr0 pr1
                    have hq2 : pd.tdiv 2 = pd / 2 := Int.tdiv_eq_ediv_of_nonneg pd0
                    have wq1 : IntKind.i64.wrap (dv / 2) = dv / 2 := IntWalk.i64_in _ (by omega)
                    have wq2 : IntKind.i64.wrap (pd / 2) = pd / 2 := IntWalk.i64_in _ (by omega)
                    have HN1 := Lib.hid fun W : World => r_nanos pr W pr0 pr1
                    have HN2 := Lib.hid fun W : World => r_nanos (pd / 2) W (by omega) (by omega)
                    have nb1 := nan_bd pr pr0 pr1
                    have nb2 := nan_bd (pd / 2) (by omega) (by omega)
                    have HBY := Lib.hid fun (B : Nat) (W : World) q0 q1 q2 q3 => ref4_add4 (dv / 2) 1 (nanV pr) (nanV (pd / 2)) B W (by unfold I64; omega) (by unfold I64; omega) (by unfold I64; omega) (by unfold I64; omega) q0 q1 q2 q3
                    have hbv : addS (addS (addS (dv / 2) 1) (nanV pr)) (nanV (pd / 2)) = byV dv pd pr := rfl
                    rw [hbv] at HBY
                    have bB := byV_bd dv pd pr hr1 hr2 pd0 pd1 pr0 pr1
                    have oB2 : -4611686018427387904 ≤ ov / 2 ∧ ov / 2 ≤ 4611686018427387903 := by omega
                    clear hbv pd0 pd1 pr0 pr1 oB HD HO HFL
                    generalize byV dv pd pr = bw at *
                    generalize nanV pr = m1 at *
                    generalize nanV (pd / 2) = m2 at *
                    have HLO := Lib.hid fun (B : Nat) (W : World) q0 q1 => ref4_add2 (ov / 2) (-bw) B W (by omega) (by omega) q0 q1
                    have HHI := Lib.hid fun (B : Nat) (W : World) q0 q1 => ref4_add2 (ov / 2) bw B W (by omega) (by omega) q0 q1
                    have wby : IntKind.i64.wrap (-bw) = -bw := IntWalk.i64_in _ (by omega)
                    have SB1 := Lib.hid (addS_bd (ov / 2) (-bw))
                    have SB2 := Lib.hid (addS_bd (ov / 2) bw)
                    obtain ⟨y0, y1, y2, y3, y4, y5, y6, y7, yl⟩ := Y11.out
                    clear y0 y1 y2 y5 y6 y7 yl
                    go_wp2_with fail
                    refine wp_region_held_drew (S := fun w' => w'.cell? ⟨G, 3, none⟩ = some (.int .i64 pd) ∧ w'.cell? ⟨G, 4, none⟩ = some (.int .i64 pr)) (by kernel_rfl) ?_ (fun hHeld => ?_)
                    · exact ⟨y3, y4⟩
                    have k12 : Below w11.heap.size w11 w11.drew := (Below.refl _ _).drew
                    have HK12 := Lib.hid (HK11.out.below k12)
                    have HF12 := Lib.hid (HF11.out.next k12)
                    have Y12 := Lib.hid (Y11.out.below k12 Y11.out.lt)
                    have y3 : w11.drew.cell? ⟨G, 3, none⟩ = some (.int .i64 pd) := y3
                    have y4 : w11.drew.cell? ⟨G, 4, none⟩ = some (.int .i64 pr) := y4
                    clear k12 HK11 HF11 Y11
                    generalize w11.drew = w12 at *
                    refine wpAnyH_take (i := 0) (v := ?_) rfl (by kernel_rfl) (by kernel_rfl) (by kernel_rfl) (fun _ _ _ h => h) (Or.inl ⟨by rfl, ?_⟩) (by assumption) ?_
                    rotate_left
                    · intro w' hSw; (try dsimp only at hSw); go_simp; (try with_reducible rfl)
                    (try simp only [Act.put, List.setIfInBounds_toArray, List.set_cons_zero, List.set_cons_succ, List.getElem_toArray, List.getElem_cons_succ, List.getElem_cons_zero])
                    refine wpAnyH_take (i := 1) (v := ?_) rfl (by kernel_rfl) (by kernel_rfl) (by kernel_rfl) (fun _ _ _ h => h) (Or.inl ⟨by rfl, ?_⟩) (by assumption) ?_
                    rotate_left
                    · intro w' hSw; (try dsimp only at hSw); go_simp; (try with_reducible rfl)
                    (try simp only [Act.put, List.setIfInBounds_toArray, List.set_cons_zero, List.set_cons_succ, List.getElem_toArray, List.getElem_cons_succ, List.getElem_cons_zero])
                    refine wpAnyH_take (i := 2) (v := ?_) rfl (by kernel_rfl) (by kernel_rfl) (by kernel_rfl) (fun _ _ _ h => h) (Or.inl ⟨by rfl, ?_⟩) (by assumption) ?_
                    rotate_left
                    · intro w' hSw; (try dsimp only at hSw); go_simp; (try with_reducible rfl)
                    (try simp only [Act.put, List.setIfInBounds_toArray, List.set_cons_zero, List.set_cons_succ, List.getElem_toArray, List.getElem_cons_succ, List.getElem_cons_zero])
                    refine wpAnyH_take (i := 3) (v := ?_) rfl (by kernel_rfl) (by kernel_rfl) (by kernel_rfl) (fun _ _ _ h => h) (Or.inl ⟨by rfl, ?_⟩) (by assumption) ?_
                    rotate_left
                    · intro w' hSw; (try dsimp only at hSw); go_simp; (try with_reducible rfl)
                    (try simp only [Act.put, List.setIfInBounds_toArray, List.set_cons_zero, List.set_cons_succ, List.getElem_toArray, List.getElem_cons_succ, List.getElem_cons_zero])
                    refine wpAnyH_take (i := 5) (v := ?_) rfl (by kernel_rfl) (by kernel_rfl) (by kernel_rfl) (fun _ _ _ h => h) (Or.inl ⟨by rfl, ?_⟩) (by assumption) ?_
                    rotate_left
                    · intro w' hSw; (try dsimp only at hSw); go_simp; (try with_reducible rfl)
                    (try simp only [Act.put, List.setIfInBounds_toArray, List.set_cons_zero, List.set_cons_succ, List.getElem_toArray, List.getElem_cons_succ, List.getElem_cons_zero])
                    refine wpAnyH_take (i := 6) (v := ?_) rfl (by kernel_rfl) (by kernel_rfl) (by kernel_rfl) (fun _ _ _ h => h) (Or.inl ⟨by rfl, ?_⟩) (by assumption) ?_
                    rotate_left
                    · intro w' hSw; (try dsimp only at hSw); go_simp; (try with_reducible rfl)
                    (try simp only [Act.put, List.setIfInBounds_toArray, List.set_cons_zero, List.set_cons_succ, List.getElem_toArray, List.getElem_cons_succ, List.getElem_cons_zero])
                    refine wpAnyH_take (i := 7) (v := ?_) rfl (by kernel_rfl) (by kernel_rfl) (by kernel_rfl) (fun _ _ _ h => h) (Or.inl ⟨by rfl, ?_⟩) (by assumption) ?_
                    rotate_left
                    · intro w' hSw; (try dsimp only at hSw); go_simp; (try with_reducible rfl)
                    (try simp only [Act.put, List.setIfInBounds_toArray, List.set_cons_zero, List.set_cons_succ, List.getElem_toArray, List.getElem_cons_succ, List.getElem_cons_zero])
                    refine wpAnyH_ready (rs := [4]) (by kernel_rfl) (by simp) ?_
                    refine AllReadyH.cons rfl (fun K hK => ?_) (AllReadyH.nil)
                    go_simp
                    (go_at_call 50; refine (HN1.out _).mono ?_; rintro e w' ⟨rfl, rfl⟩)
                    (try dsimp only)
                    refine hK.out _ _ ?_ (fun hHeld => ?_)
                    · exact ⟨y3, y4⟩
                    clear hK K
                    (try simp only [Act.put, List.setIfInBounds_toArray, List.set_cons_zero, List.set_cons_succ, List.getElem_toArray, List.getElem_cons_succ, List.getElem_cons_zero])
                    refine wpAnyH_ready (rs := [8]) (by kernel_rfl) (by simp) ?_
                    refine AllReadyH.cons rfl (fun K hK => ?_) (AllReadyH.nil)
                    go_simp
                    (go_at_call 50; refine (HN2.out _).mono ?_; rintro e w' ⟨rfl, rfl⟩)
                    (try dsimp only)
                    refine hK.out _ _ ?_ (fun hHeld => ?_)
                    · exact ⟨y3, y4⟩
                    clear hK K
                    (try simp only [Act.put, List.setIfInBounds_toArray, List.set_cons_zero, List.set_cons_succ, List.getElem_toArray, List.getElem_cons_succ, List.getElem_cons_zero])
                    refine wpAnyH_ready (rs := [9]) (by kernel_rfl) (by simp) ?_
                    refine AllReadyH.cons rfl (fun K hK => ?_) (AllReadyH.nil)
                    go_simp
                    have k13 : Below w12.heap.size w12 (w12.alloc (.cells #[.int .i64 (dv / 2), .int .i64 1, .int .i64 m1, .int .i64 m2] 3)) := (Below.refl _ _).alloc (Nat.le_refl _) _
                    have HK13 := Lib.hid (HK12.out.below k13)
                    have HF13 := Lib.hid (HF12.out.next k13)
                    have Y13 := Lib.hid (Y12.out.below k13 Y12.out.lt)
                    clear k13
                    have y3 : (w12.alloc (.cells #[.int .i64 (dv / 2), .int .i64 1, .int .i64 m1, .int .i64 m2] 3)).cell? ⟨G, 3, none⟩ = some (.int .i64 pd) := Y13.out.c3
                    have y4 : (w12.alloc (.cells #[.int .i64 (dv / 2), .int .i64 1, .int .i64 m1, .int .i64 m2] 3)).cell? ⟨G, 4, none⟩ = some (.int .i64 pr) := Y13.out.c4
                    have x0 : (w12.alloc (.cells #[.int .i64 (dv / 2), .int .i64 1, .int .i64 m1, .int .i64 m2] 3)).cell? ⟨w12.heap.size, 0, none⟩ = some (.int .i64 (dv / 2)) := by simp
                    have x1 : (w12.alloc (.cells #[.int .i64 (dv / 2), .int .i64 1, .int .i64 m1, .int .i64 m2] 3)).cell? ⟨w12.heap.size, 1, none⟩ = some (.int .i64 1) := by simp
                    have x2 : (w12.alloc (.cells #[.int .i64 (dv / 2), .int .i64 1, .int .i64 m1, .int .i64 m2] 3)).cell? ⟨w12.heap.size, 2, none⟩ = some (.int .i64 m1) := by simp
                    have x3 : (w12.alloc (.cells #[.int .i64 (dv / 2), .int .i64 1, .int .i64 m1, .int .i64 m2] 3)).cell? ⟨w12.heap.size, 3, none⟩ = some (.int .i64 m2) := by simp
                    (try dsimp only)
                    refine hK.out _ _ ?_ (fun hHeld => ?_)
                    · exact ⟨y3, y4⟩
                    clear hK K
                    (try simp only [Act.put, List.setIfInBounds_toArray, List.set_cons_zero, List.set_cons_succ, List.getElem_toArray, List.getElem_cons_succ, List.getElem_cons_zero])
                    clear HK12 HF12 Y12
                    generalize (w12.alloc (.cells #[.int .i64 (dv / 2), .int .i64 1, .int .i64 m1, .int .i64 m2] 3)) = w13 at *
                    generalize w12.heap.size = G4 at *
                    refine wpAnyH_ready (rs := [10]) (by kernel_rfl) (by simp) ?_
                    refine AllReadyH.cons rfl (fun K hK => ?_) (AllReadyH.nil)
                    go_simp
                    (go_at_call 37; refine (HBY.out G4 w13 x0 x1 x2 x3).mono ?_; rintro e w' ⟨rfl, rfl⟩)
                    (try dsimp only)
                    refine hK.out _ _ ?_ (fun hHeld => ?_)
                    · exact ⟨y3, y4⟩
                    clear hK K
                    (try simp only [Act.put, List.setIfInBounds_toArray, List.set_cons_zero, List.set_cons_succ, List.getElem_toArray, List.getElem_cons_succ, List.getElem_cons_zero])
                    refine wpAnyH_take (i := 11) (v := ?_) rfl (by kernel_rfl) (by kernel_rfl) (by kernel_rfl) (fun _ _ _ h => h) (Or.inl ⟨by rfl, ?_⟩) (by assumption) ?_
                    rotate_left
                    · intro w' hSw; (try dsimp only at hSw); go_simp; (try with_reducible rfl)
                    (try simp only [Act.put, List.setIfInBounds_toArray, List.set_cons_zero, List.set_cons_succ, List.getElem_toArray, List.getElem_cons_succ, List.getElem_cons_zero])
                    refine wpAnyH_done (by kernel_rfl) ?_ _
                    clear x0 x1 x2 x3 y3 y4 hHeld HN1 HN2 HBY nb1 nb2 hq1 hq2 wq1 wq2
                    go_wp2_with fail
                    refine (HLO.out _ _ ?_ ?_).mono ?_; iterate 2 (focus (simp [go_sem]; done))
                    rintro e w' ⟨rfl, rfl⟩
                    have k14 : Below w13.heap.size w13 (w13.alloc (.cells #[.int .i64 (ov / 2), .int .i64 (-bw)] 3)) := (Below.refl _ _).alloc (Nat.le_refl _) _
                    have HK14 := Lib.hid (HK13.out.below k14)
                    have HF14 := Lib.hid (HF13.out.next k14)
                    have Y14 := Lib.hid (Y13.out.below k14 Y13.out.lt)
                    clear k14
                    clear HK13 HF13 Y13
                    generalize w13.alloc (.cells #[.int .i64 (ov / 2), .int .i64 (-bw)] 3) = w14 at *
                    go_wp2_with fail
                    refine (HHI.out _ _ ?_ ?_).mono ?_; iterate 2 (focus (simp [go_sem]; done))
                    rintro e w' ⟨rfl, rfl⟩
                    have k15 : Below w14.heap.size w14 (w14.alloc (.cells #[.int .i64 (ov / 2), .int .i64 bw] 3)) := (Below.refl _ _).alloc (Nat.le_refl _) _
                    have HK15 := Lib.hid (HK14.out.below k15)
                    have HF15 := Lib.hid (HF14.out.next k15)
                    have Y15 := Lib.hid (Y14.out.below k15 Y14.out.lt)
                    clear k15
                    clear HK14 HF14 Y14 HLO HHI
                    generalize w14.alloc (.cells #[.int .i64 (ov / 2), .int .i64 bw] 3) = w15 at *
                    generalize addS (ov / 2) (-bw) = lo at *
                    generalize addS (ov / 2) bw = hi' at *
                    obtain ⟨x0, x1, x2, x3, x4, x5⟩ := HK15.out.sixR i hi
                    have f2 := HK15.out.sf (i * 6 + 2)
                    have f3 := HK15.out.sf (i * 6 + 3)
                    have f4 := HK15.out.sf (i * 6 + 4)
                    have f5 := HK15.out.sf (i * 6 + 5)
                    have r1 := HK15.out.store i 2 hi (by omega) { K2.S i with lo := lo } (.int .i64 lo) rfl (fun q hq hne => by unfold layR; simp [hne])
                    have r2 := r1.store i 3 hi (by omega) { K2.S i with lo := lo, hi := hi' } (.int .i64 hi') rfl (fun q hq hne => by simp only [updS_same]; unfold layR; simp [hne])
                    have r3 := r2.store i 4 hi (by omega) { K2.S i with lo := lo, hi := hi', has := true } (.bool true) rfl (fun q hq hne => by simp only [updS_same]; unfold layR; simp [hne])
                    have r4 := r3.store i 5 hi (by omega) { K2.S i with has := true, h := hd, lo := lo, hi := hi' } (.int .i64 hd) rfl (fun q hq hne => by simp only [updS_same]; rcases (show q = 0 ∨ q = 1 ∨ q = 2 ∨ q = 3 ∨ q = 4 from by omega) with rfl | rfl | rfl | rfl | rfl <;> simp [layR])
                    have R4 : Hid (Nc layR ((((w15.setCell ⟨bs, i * 6 + 2, none⟩ (.int .i64 lo)).setCell ⟨bs, i * 6 + 3, none⟩ (.int .i64 hi')).setCell ⟨bs, i * 6 + 4, none⟩ (.bool true)).setCell ⟨bs, i * 6 + 5, none⟩ (.int .i64 hd)) b bc bs A n cc x z N (smpK K2 i hd lo hi')) := Lib.hid (r4.congr (S' := (smpK K2 i hd lo hi').S) (fun j _ => by simp only [smpK, updS_upd]))
                    have HF4 : Hid (But (Ft b bc bs) w ((((w15.setCell ⟨bs, i * 6 + 2, none⟩ (.int .i64 lo)).setCell ⟨bs, i * 6 + 3, none⟩ (.int .i64 hi')).setCell ⟨bs, i * 6 + 4, none⟩ (.bool true)).setCell ⟨bs, i * 6 + 5, none⟩ (.int .i64 hd))) := Lib.hid ((((HF15.out.setCell (p := ⟨bs, i * 6 + 2, none⟩) (fun _ => .inr (.inr rfl)) (.int .i64 lo)).setCell (p := ⟨bs, i * 6 + 3, none⟩) (fun _ => .inr (.inr rfl)) (.int .i64 hi')).setCell (p := ⟨bs, i * 6 + 4, none⟩) (fun _ => .inr (.inr rfl)) (.bool true)).setCell (p := ⟨bs, i * 6 + 5, none⟩) (fun _ => .inr (.inr rfl)) (.int .i64 hd))
                    have HOK6 := Lib.hid (HOK5.out.smp i hi hd lo hi' hh0.1 hh0.2 SB1.out SB2.out)
                    have HTU := Lib.hid (r_settles R4.out HOK6.out hN count hcc)
                    have e3 : (smpK K2 i hd lo hi').t = hd := HHD.out
                    rw [e3] at HTU
                    clear r1 r2 r3 r4 e3 HK15 HF15 Y15
                    go_wp2_with fail
                    refine HTU.out.mono ?_; rintro e w30 ⟨rfl, hk30, hb30⟩
                    have HK30 := Lib.hid hk30
                    have HF30 := Lib.hid (HF4.out.trans (T := Ft b bc bs) hb30 (fun _ _ q => q))
                    clear hk30 hb30
                    go_wp2_with fail
                    go_ret
                    exact ⟨by simp only [HV1.out]; rfl, by simp only [HV1.out]; exact HK30.out, HF30.out⟩
              · as_aux_lemma =>
                rw [if_pos he3] at HV1
                have te : (e3 != 0) = true := by simpa using he3
                clear he3
                go_wp2_with fail
                go_ret
                exact ⟨by simp only [HV1.out]; rfl, by simp only [HV1.out]; exact HK9.out, HF9.out⟩
            · as_aux_lemma =>
              rw [if_pos he2] at HV1
              have te : (e2 != 0) = true := by simpa using he2
              clear he2
              go_wp2_with fail
              go_ret
              exact ⟨by simp only [HV1.out]; rfl, by simp only [HV1.out]; exact HK8.out, HF8.out⟩
  · as_aux_lemma =>
    have tm : (pm != 4) = true := by simpa using hm
    have HV := Lib.hid (show hearK rstR z n x N K i count ⟨pl, pm, ps, pd, pr, po, pv, pt⟩ = (3, K) from by unfold hearK; rw [if_pos hm])
    clear hm
    obtain ⟨y0, y1, y2, y3, y4, y5, y6, y7, yl⟩ := Y.out
    go_wp2_with fail
    go_ret
    exact ⟨by simp only [HV.out]; rfl, by simp only [HV.out]; exact HK2.out, But.of_below HB2.out⟩
end Go.Proofs.YtepdnkpmkhjlgaaGreat
