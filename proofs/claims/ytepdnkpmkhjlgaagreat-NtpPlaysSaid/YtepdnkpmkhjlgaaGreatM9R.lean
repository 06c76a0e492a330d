/- NTP: the law's does, of any act (written by gen/doesa.py). -/
import Derived.Test.YtepdnkpmkhjlgaaGreatTk9
import Derived.Test.YtepdnkpmkhjlgaaGreatM9Q
import Derived.Test.YtepdnkpmkhjlgaaGreatM9P
import Derived.Test.YtepdnkpmkhjlgaaGreatM9O
import Derived.Test.YtepdnkpmkhjlgaaGreatM9O
import Derived.Test.YtepdnkpmkhjlgaaGreatLow40
import Derived.Test.YtepdnkpmkhjlgaaGreatPkDec
import Derived.Test.YtepdnkpmkhjlgaaGreatM9P
/- NTP: Hear of a packet: what the reference makes of it (written by gen/rhear.py). -/
set_option linter.unusedSimpArgs false
set_option linter.unusedVariables false
namespace Go.Proofs.YtepdnkpmkhjlgaaGreat
open Go.RowKit Go.Sort

theorem r_utc_max (A : Option Addr) (n c : Nat) (x : Int) (z : Nat → Int) (w : World) (hz : FlatAt w A 2 n z) (hT : IsTab z n x) :
    Calls Tryz.prog 43 #[.agg #[.slice A n c, .int .i64 x], .int .i64 9223372036854775807] w fun e w' => e = .returned (.tuple #[.agg #[.int .i64 0, .int .i64 0], .int .i64 11]) ∧ Below w.heap.size w w' := by
  have hn : n ≤ maxLen := by have := hT.2.1; unfold maxLen; omega
  have HB0 : Below w.heap.size w ((w.alloc (.cells #[.slice A n c, .int .i64 x] 24)).alloc (.cells #[.int .i64 0, .int .i64 0] 105)) := by (repeat' (first | (with_reducible exact Below.refl _ _) | (with_reducible assumption) | (with_reducible refine Below.trans ?_ (Below.mono (by with_reducible assumption) ?_)) | (with_reducible refine Below.alloc ?_ ?_ _) | (with_reducible refine Below.setCell ?_ ?_ _) | (with_reducible refine below_drewN ?_ _) | (with_reducible refine Below.drew ?_) | go_size))
  have HIS := Lib.hid (ref3_is A n c x z _ true (hz.below HB0) hn ⟨fun _ => hT, fun _ => rfl⟩)
  have l0 : w.heap.size + 1 < ((w.alloc (.cells #[.slice A n c, .int .i64 x] 24)).alloc (.cells #[.int .i64 0, .int .i64 0] 105)).heap.size := by simp
  have I0 : Ints2 ((w.alloc (.cells #[.slice A n c, .int .i64 x] 24)).alloc (.cells #[.int .i64 0, .int .i64 0] 105)) (w.heap.size + 1) 0 0 := by
    have := Ints2.new (w.alloc (.cells #[.slice A n c, .int .i64 x] 24)) 0 0 105
    rwa [World.size_alloc] at this
  clear hz
  go_enter Tryz.func43, Tryz.ntmps43
  go_wp2_with fail
  refine HIS.out.mono ?_; rintro e w1 ⟨rfl, k1⟩
  have I1 := I0.below k1 l0
  have HB1 := HB0.trans (k1.mono HB0.size)
  have J := (I1.set0 0).set1 0
  have JC := Lib.hid (And.intro J.c0 J.c1)
  obtain ⟨i0, i1, if0, if1, il⟩ := I1
  have HB2 := Lib.hid ((HB1.setCell (p := ⟨w.heap.size + 1, 0, none⟩) (Nat.le_succ _) (.int .i64 0)).setCell (p := ⟨w.heap.size + 1, 1, none⟩) (Nat.le_succ _) (.int .i64 0))
  clear k1 HB0 HB1 I0 J l0 HIS
  go_wp2_with fail
  have j0 := JC.out.1
  have j1 := JC.out.2
  refine bodyPost_ret (v := .tuple #[.agg #[.int .i64 0, .int .i64 0], .int .i64 11]) (by simp [results, Tryz.results43, go_sem, j0, j1]) rfl ⟨rfl, HB2.out⟩
theorem ref4_add4 (a b d f : Int) (B : Nat) (w : World) (ha : I64 a) (hb : I64 b) (hd : I64 d) (hf : I64 f) (h0 : w.cell? ⟨B, 0, none⟩ = some (.int .i64 a)) (h1 : w.cell? ⟨B, 1, none⟩ = some (.int .i64 b)) (h2 : w.cell? ⟨B, 2, none⟩ = some (.int .i64 d)) (h3 : w.cell? ⟨B, 3, none⟩ = some (.int .i64 f)) :
    Calls Tryz.prog 37 #[.slice (some ⟨B, 0, none⟩) 4 4] w fun e w' => e = .returned (.int .i64 (addS (addS (addS a b) d) f)) ∧ w = w' := by
  have h := ref4_add (fun j => if j = 0 then a else if j = 1 then b else if j = 2 then d else f) (some ⟨B, 0, none⟩) 4 4 w (by omega) (fun _ => ⟨B, 0, rfl, by
    intro j hj
    rcases (show j = 0 ∨ j = 1 ∨ j = 2 ∨ j = 3 from by omega) with rfl | rfl | rfl | rfl
    · exact ⟨by simpa using h0, by simpa [I64] using ha⟩
    · exact ⟨by simpa using h1, by simpa [I64] using hb⟩
    · exact ⟨by simpa using h2, by simpa [I64] using hd⟩
    · exact ⟨by simpa using h3, by simpa [I64] using hf⟩⟩)
  have e : sumS (fun j => if j = 0 then a else if j = 1 then b else if j = 2 then d else f) 4 = addS (addS (addS a b) d) f := by
    show addS (addS (addS (addS 0 a) b) d) f = _
    unfold I64 at ha
    rw [addS_in (a := 0) (b := a) (by omega) (by omega), Int.zero_add]
  rwa [e] at h
set_option maxRecDepth 100000 in
set_option maxHeartbeats 16000000 in
theorem r_hear_p {w : World} {b bc bs : Nat} {A : Option Addr} {n cc : Nat} {x : Int} {z : Nat → Int} {N : Nat} {K : Cs} (h : Nc layR w b bc bs A n cc x z N K) (hK : K.Ok N) (hN : N ≤ 8) (i : Nat) (hi : i < N) (count : Int) (hc : count ≤ 9223372036854775807) (bv : Value) (p : Pk) (hp : p.ok) (hdec : Calls Tryz.prog 29 #[bv] w fun e w' => e = .returned (.tuple #[pkVal p, .int .i64 0]) ∧ Below w.heap.size w w') :
    Calls Tryz.prog 20 #[.pointer (some ⟨b, 0, none⟩), .int .i64 i, .int .i64 count, bv] w fun e w' => e = .returned (.int .i64 (hearK rstR z n x N K i count p).1) ∧ Nc layR w' b bc bs A n cc x z N (hearK rstR z n x N K i count p).2 ∧ But (Ft b bc bs) w w' := by
  obtain ⟨pl, pm, ps, pd, pr, po, pv, pt⟩ := p
  have HHS := Lib.hid (r_is h i hi)
  have HDC := Lib.hid hdec
  have HH := Lib.hid (fun (W : World) (k : Below w.heap.size w W) => h.below k)
  have HPK := Lib.hid hp
  have HKK := Lib.hid hK
  have hlb := h.lt
  have hls := h.sl
  have hlc := h.clk.lt
  clear hdec hp hK h
  go_enter Tryz.func20, Tryz.ntmps20
  go_wp2_with fail
  refine HHS.out.mono ?_; rintro e w' ⟨rfl, rfl⟩
  go_wp2_with fail
  refine HDC.out.mono ?_; rintro e w1 ⟨rfl, k1⟩
  have k2 : Below w.heap.size w (w1.alloc (.cells #[.int .i64 pl, .int .i64 pm, .int .i64 ps, .int .i64 pd, .int .i64 pr, .int .u64 po, .int .u64 pv, .int .u64 pt] 53)) := k1.alloc k1.size _
  have HK2 := Lib.hid (HH.out _ k2)
  have HB2 := Lib.hid k2
  have Y := Lib.hid (Box8.newR w1 pl pm ps pd pr po pv pt)
  have zr := k1.size
  have c3 := HK2.out.c3
  obtain ⟨x0, x1, x2, x3, x4, x5⟩ := HK2.out.sixR i hi
  have li : (i : Int) < (N : Int) := by omega
  clear k1 k2
  by_cases hm : pm = 4
  · subst hm
    have HV1 := Lib.hid (show hearK rstR z n x N K i count ⟨pl, 4, ps, pd, pr, po, pv, pt⟩ = if (K.S i).q = 0 ∨ po ≠ (K.S i).q then (14, K) else if pl = 3 ∨ ps < 1 ∨ 15 < ps then (15, clrK K i) else if pv = 0 ∨ pt = 0 then (3, clrK K i) else hear1 rstR z n x N (readK (clrK K i) count) i ⟨pl, 4, ps, pd, pr, po, pv, pt⟩ from by unfold hearK; rw [if_neg (by simp)])
    obtain ⟨q, hq⟩ : ∃ q, (K.S i).q = q := ⟨_, rfl⟩
    have hq0 := (HKK.out.srv i hi).q0
    rw [hq] at x0 HV1 hq0
    have HQ := Lib.hid hq
    clear hq
    go_wp2_with fail
    by_cases ho : q = 0 ∨ po ≠ q
    · as_aux_lemma =>
      rw [if_pos ho] at HV1
      have hcs : (q == 0) = true ∨ ((q == 0) = false ∧ (po != q) = true) := by
        rcases (show q = 0 ∨ (q ≠ 0 ∧ po ≠ q) from by omega) with e | ⟨e1, e2⟩
        · exact .inl (by simpa using e)
        · exact .inr ⟨by simpa using e1, by simpa using e2⟩
      clear ho
      obtain ⟨y0, y1, y2, y3, y4, y5, y6, y7, yl⟩ := Y.out
      rcases hcs with t1 | ⟨t1, t2⟩
      · go_quiet (fail)
        go_wp2_with fail
        go_ret
        exact ⟨by simp only [HV1.out]; rfl, by simp only [HV1.out]; exact HK2.out.drewN _, But.of_below (below_drewN HB2.out _)⟩
      · go_quiet (fail)
        go_wp2_with fail
        go_ret
        exact ⟨by simp only [HV1.out]; rfl, by simp only [HV1.out]; exact HK2.out.drewN _, But.of_below (below_drewN HB2.out _)⟩
    · as_aux_lemma =>
      rw [if_neg ho] at HV1
      have t1 : (q == 0) = false := by simp only [beq_eq_false_iff_ne]; omega
      have t2 : (po != q) = false := by simp only [bne_eq_false_iff_eq]; omega
      clear ho
      obtain ⟨y0, y1, y2, y3, y4, y5, y6, y7, yl⟩ := Y.out
      go_quiet (fail)
      have HK3 := Lib.hid (HK2.out.drewN nq)
      have HB3 := Lib.hid (below_drewN HB2.out nq)
      have Y3 := Lib.hid (Y.out.drewN nq)
      have hG : w.heap.size ≤ w1.heap.size := zr
      clear HK2 HB2 Y y0 y1 y2 y3 y4 y5 y6 y7 yl c3 x0 x1 x2 x3 x4 x5 zr
      generalize (w1.alloc (.cells #[.int .i64 pl, .int .i64 4, .int .i64 ps, .int .i64 pd, .int .i64 pr, .int .u64 po, .int .u64 pv, .int .u64 pt] 53)).drewN nq = V at *
      generalize w1.heap.size = G at *
      have HK4 : Hid (Nc layR (V.setCell ⟨bs, i * 6, none⟩ (.int .u64 0)) b bc bs A n cc x z N (clrK K i)) := Lib.hid (HK3.out.store i 0 hi (by omega) { K.S i with q := 0 } (.int .u64 0) rfl (fun q hq hne => by unfold layR; simp [hne]))
      have HF4 : Hid (But (Ft b bc bs) w (V.setCell ⟨bs, i * 6, none⟩ (.int .u64 0))) := Lib.hid ((But.of_below HB3.out).setCell (p := ⟨bs, i * 6, none⟩) (fun _ => .inr (.inr rfl)) (.int .u64 0))
      have Y4 := Lib.hid (Y3.out.other (p := ⟨bs, i * 6, none⟩) (by show bs ≠ G; omega) (.int .u64 0))
      have f0 := HK3.out.sf (i * 6)
      have xq := (HK3.out.sixR i hi).1
      have lV := HK3.out.sl
      obtain ⟨y0, y1, y2, y3, y4, y5, y6, y7, yl⟩ := Y4.out
      have c0 := HK4.out.c0
      clear HK3 HB3 Y3
      by_cases hl : pl = 3 ∨ ps < 1 ∨ 15 < ps
      · rw [if_pos hl] at HV1
        have hcs : (pl == 3) = true ∨ ((pl == 3) = false ∧ decide (ps < 1) = true) ∨ ((pl == 3) = false ∧ decide (ps < 1) = false ∧ decide (ps > 15) = true) := by
          rcases (show pl = 3 ∨ (pl ≠ 3 ∧ ps < 1) ∨ (pl ≠ 3 ∧ ¬ ps < 1 ∧ 15 < ps) from by omega) with e | ⟨e, e1⟩ | ⟨e, e1, e2⟩
          · exact .inl (by simpa using e)
          · exact .inr (.inl ⟨by simpa using e, by simpa using e1⟩)
          · exact .inr (.inr ⟨by simpa using e, by simpa using e1, by simpa using e2⟩)
        clear hl
        rcases hcs with t3 | ⟨t3, t4⟩ | ⟨t3, t4, t5⟩
        all_goals
          go_wp2_with fail
          go_ret
          exact ⟨by simp only [HV1.out]; rfl, by simp only [HV1.out]; exact HK4.out, HF4.out⟩
      · rw [if_neg hl] at HV1
        have t3 : (pl == 3) = false := by simp only [beq_eq_false_iff_ne]; omega
        have t4 : decide (ps < 1) = false := by simp; omega
        have t5 : decide (ps > 15) = false := by simp; omega
        clear hl
        by_cases hz : pv = 0 ∨ pt = 0
        · rw [if_pos hz] at HV1
          have hcs : (pv == 0) = true ∨ ((pv == 0) = false ∧ (pt == 0) = true) := by
            rcases (show pv = 0 ∨ (pv ≠ 0 ∧ pt = 0) from by omega) with e | ⟨e, e1⟩
            · exact .inl (by simpa using e)
            · exact .inr ⟨by simpa using e, by simpa using e1⟩
          clear hz
          rcases hcs with t6 | ⟨t6, t7⟩
          all_goals
            go_wp2_with fail
            go_ret
            exact ⟨by simp only [HV1.out]; rfl, by simp only [HV1.out]; exact HK4.out, HF4.out⟩
        · rw [if_neg hz] at HV1
          have t6 : (pv == 0) = false := by simp only [beq_eq_false_iff_ne]; omega
          have t7 : (pt == 0) = false := by simp only [beq_eq_false_iff_ne]; omega
          clear hz
          have hok4 := HKK.out.clr i hi
          have HRD := Lib.hid (ref8_read_all bc K.c K.t K.l count _ HK4.out.clk hok4.clk hc)
          have HOK5 := Lib.hid (hok4.read count hc)
          have hcc : count ≤ rc K.c count := by unfold rc; split <;> omega
          clear hok4
          go_wp2_with fail
          refine HRD.out.mono ?_; rintro e w5 ⟨rfl, ho5, k5⟩
          have HK5 : Hid (Nc layR w5 b bc bs A n cc x z N (readK (clrK K i) count)) := Lib.hid (HK4.out.clock ho5 k5)
          have HF5 : Hid (But (Ft b bc bs) w w5) := Lib.hid (HF4.out.trans (T := Ft b bc bs) (But.of_only ho5 (.inr (.inl rfl))) (fun _ _ q => q))
          have hbcG : bc < w.heap.size := hlc
          have Y5 := Lib.hid (Y4.out.only ho5 (by omega))
          have hKc : (readK (clrK K i) count).c = rc K.c count := rfl
          have hKt : (readK (clrK K i) count).t = rt K.c K.t K.l count := rfl
          have hz5 := ho5.size
          clear ho5 k5 HK4 HF4 Y4 y0 y1 y2 y3 y4 y5 y6 y7 yl c0 f0 xq HRD t3 t4 t5 t6 t7 t1 t2
          rw [← hKt]
          rw [← hKc] at hcc
          clear hKc hKt
          generalize readK (clrK K i) count = K2 at *
          have hh := HOK5.out.clk
          have hh0 : 0 ≤ K2.t ∧ K2.t ≤ 9223372036854775807 := by unfold Ok3 at hh; omega
          obtain ⟨hd, hhd⟩ : ∃ hd, K2.t = hd := ⟨_, rfl⟩
          rw [hhd] at hh0
          rw [hhd]
          have HHD := Lib.hid hhd
          clear hhd hh
          unfold hear1 at HV1
          rw [HHD.out] at HV1
          simp only at HV1
          have c1 := HK5.out.c1
          have c2 := HK5.out.c2
          by_cases hm : hd = 9223372036854775807
          · as_aux_lemma =>
            subst hm
            rw [if_pos rfl] at HV1
            have HU := Lib.hid (r_utc_max A n cc x z w5 HK5.out.tab HK5.out.tb)
            go_wp2_with fail
            refine HU.out.mono ?_; rintro e w6 ⟨rfl, k6⟩
            have kk := k6.alloc k6.size (.cells #[.int .i64 0, .int .i64 0] 105)
            have HK6 := Lib.hid (HK5.out.below kk)
            have HF6 := Lib.hid (HF5.out.next kk)
            have Y6 := Lib.hid (Y5.out.below kk Y5.out.lt)
            clear k6 kk HK5 HF5 Y5 c1 c2
            go_wp2_with fail
            go_ret
            exact ⟨by simp only [HV1.out]; rfl, by simp only [HV1.out]; exact HK6.out, HF6.out⟩
          · rw [if_neg hm] at HV1
            have hb := utcD_bd (z := z) (n := n) hd hh0.1 hh0.2
            have HU := Lib.hid (ref4_utc A n cc x hd z w5 HK5.out.tab HK5.out.tb hh0.1 (by omega))
            have HM2 := Lib.hid (fun (W : World) (k : Below w5.heap.size w5 W) => r_moment (HK5.out.below k) pv (utcD z n hd) HPK.out.v.1 HPK.out.v.2 hb.1 hb.2)
            have HM3 := Lib.hid (fun (W : World) (k : Below w5.heap.size w5 W) => r_moment (HK5.out.below k) pt (utcD z n hd) HPK.out.t.1 HPK.out.t.2 hb.1 hb.2)
            have HT2 := Lib.hid (momV_bd HK5.out.tb pv (utcD z n hd) hb.1 hb.2 HPK.out.v.1)
            have HT3 := Lib.hid (momV_bd HK5.out.tb pt (utcD z n hd) hb.1 hb.2 HPK.out.t.1)
            generalize momV z n x pv (utcD z n hd) = q2 at *
            generalize momV z n x pt (utcD z n hd) = q3 at *
            generalize utcM z n hd = mm at *
            generalize utcD z n hd = dd at *
            obtain ⟨a2, e2⟩ := q2
            obtain ⟨a3, e3⟩ := q3
            simp only at HM2 HM3 HT2 HT3 HV1
            clear hb hm
            go_wp2_with fail
            refine HU.out.mono ?_; rintro e w6 ⟨rfl, k6⟩
            have k7 := k6.alloc k6.size (.cells #[.int .i64 dd, .int .i64 mm] 105)
            have HK7 := Lib.hid (HK5.out.below k7)
            have HF7 := Lib.hid (HF5.out.next k7)
            have Y7 := Lib.hid (Y5.out.below k7 Y5.out.lt)
            have KB7 := Lib.hid k7
            have u0 : (w6.alloc (.cells #[.int .i64 dd, .int .i64 mm] 105)).cell? ⟨w6.heap.size, 0, none⟩ = some (.int .i64 dd) := by simp
            have lu : w6.heap.size < (w6.alloc (.cells #[.int .i64 dd, .int .i64 mm] 105)).heap.size := by simp
            clear k6 k7 HK5 HF5 Y5 c1 c2 HU
            obtain ⟨y0, y1, y2, y3, y4, y5, y6, y7, yl⟩ := Y7.out
            go_wp2_with fail
            generalize w6.alloc (.cells #[.int .i64 dd, .int .i64 mm] 105) = W7 at *
            generalize w6.heap.size = gu at *
            refine (HM2.out W7 KB7.out).mono ?_; rintro e w8 ⟨rfl, k8⟩
            have HK8 := Lib.hid (HK7.out.below k8)
            have HF8 := Lib.hid (HF7.out.next k8)
            have Y8 := Lib.hid (Y7.out.below k8 Y7.out.lt)
            have KB8 := Lib.hid (KB7.out.trans (k8.mono KB7.out.size))
            have u0 := (k8.cell (p := ⟨gu, 0, none⟩) lu).trans u0
            clear k8 lu y0 y1 y2 y3 y4 y5 y6 y7 yl HK7 HF7 Y7 KB7
            by_cases he2 : e2 = 0
            · subst he2
              rw [if_neg (by simp)] at HV1
              obtain ⟨y0, y1, y2, y3, y4, y5, y6, y7, yl⟩ := Y8.out
              go_wp2_with fail
              refine (HM3.out w8 KB8.out).mono ?_; rintro e w9 ⟨rfl, k9⟩
              have HK9 := Lib.hid (HK8.out.below k9)
              have HF9 := Lib.hid (HF8.out.next k9)
              have Y9 := Lib.hid (Y8.out.below k9 Y8.out.lt)
              clear k9 u0 y0 y1 y2 y3 y4 y5 y6 y7 yl HK8 HF8 Y8 KB8
              by_cases he3 : e3 = 0
              · subst he3
                rw [if_neg (by simp)] at HV1
                by_cases hlt : a3 < a2
                · as_aux_lemma =>
                  have tl : decide (a3 < a2) = true := by simpa using hlt
                  unfold hear2 at HV1
                  rw [if_pos hlt] at HV1
                  clear hlt
                  go_wp2_with fail
                  go_ret
                  exact ⟨by simp only [HV1.out]; rfl, by simp only [HV1.out]; exact HK9.out, HF9.out⟩
                · have tl : decide (a3 < a2) = false := by simp; omega
                  have HLT := Lib.hid hlt
                  unfold hear2 at HV1
                  rw [if_neg hlt, HHD.out] at HV1
                  have sB := HOK5.out.srv i hi
                  have sa0 := sB.a0
                  have sa1 := sB.a1
                  clear hlt sB
                  obtain ⟨sa, hsa⟩ : ∃ sa, (K2.S i).a = sa := ⟨_, rfl⟩
                  have xa := (HK9.out.sixR i hi).2.1
                  rw [hsa] at xa HV1 sa0 sa1
                  have HSA := Lib.hid hsa
                  clear hsa
                  have b0 := HT2.out.1
                  have b1 := HT2.out.2
                  have c0 := HT3.out.1
                  have c1 := HT3.out.2
                  have h0 := hh0.1
                  have h1 := hh0.2
                  have n1 : IntKind.i64.wrap (-sa) = -sa := IntWalk.i64_in _ (by omega)
                  have n2 : IntKind.i64.wrap (-a3) = -a3 := IntWalk.i64_in _ (by omega)
                  have n3 : IntKind.i64.wrap (-hd) = -hd := IntWalk.i64_in _ (by omega)
                  have ia : I64 (-sa) := by unfold I64; omega
                  have it3 : I64 (-a3) := by unfold I64; omega
                  have it3' : I64 a3 := by unfold I64; omega
                  have it2 : I64 a2 := by unfold I64; omega
                  have ihd : I64 hd := by unfold I64; omega
                  have ihd' : I64 (-hd) := by unfold I64; omega
                  have HD := Lib.hid fun (B : Nat) (W : World) q0 q1 q2 q3 => ref4_add4 hd (-sa) (-a3) a2 B W ihd ia it3 it2 q0 q1 q2 q3
                  have HO := Lib.hid fun (B : Nat) (W : World) q0 q1 q2 q3 => ref4_add4 a2 (-sa) a3 (-hd) B W it2 ia it3' ihd' q0 q1 q2 q3
                  have oB := addS_bd (addS (addS a2 (-sa)) a3) (-hd)
                  have hdv : addS (addS (addS hd (-sa)) (-a3)) a2 = dlyV hd sa a2 a3 := rfl
                  rw [hdv] at HD
                  have hov : offV hd sa a2 a3 = addS (addS (addS a2 (-sa)) a3) (-hd) / 2 := rfl
                  rw [hov] at HV1
                  generalize addS (addS (addS a2 (-sa)) a3) (-hd) = ov at *
                  generalize dlyV hd sa a2 a3 = dv at *
                  clear ia it3 it3' it2 ihd ihd' hdv hov b0 b1 c0 c1 h0 h1 sa0 sa1
                  go_wp2_with fail
                  refine (HD.out _ _ ?_ ?_ ?_ ?_).mono ?_; iterate 4 (focus (simp [go_sem]; done))
                  rintro e w' ⟨rfl, rfl⟩
                  have k10 : Below w9.heap.size w9 (w9.alloc (.cells #[.int .i64 hd, .int .i64 (-sa), .int .i64 (-a3), .int .i64 a2] 3)) := (Below.refl _ _).alloc (Nat.le_refl _) _
                  have HK10 := Lib.hid (HK9.out.below k10)
                  have HF10 := Lib.hid (HF9.out.next k10)
                  have Y10 := Lib.hid (Y9.out.below k10 Y9.out.lt)
                  clear k10
                  have xa := (HK10.out.sixR i hi).2.1
                  rw [HSA.out] at xa
                  clear HK9 HF9 Y9
                  generalize w9.alloc (.cells #[.int .i64 hd, .int .i64 (-sa), .int .i64 (-a3), .int .i64 a2] 3) = w10 at *
                  by_cases hr : dv < 0 ∨ 16000000000 < dv
                  · as_aux_lemma =>
                    rw [if_pos hr] at HV1
                    by_cases hr0 : dv < 0
                    · have td : decide (dv < 0) = true := by simpa using hr0
                      clear hr hr0
                      go_wp2_with fail
                      go_ret
                      exact ⟨by simp only [HV1.out]; rfl, by simp only [HV1.out]; exact HK10.out, HF10.out⟩
                    · have td : decide (dv < 0) = false := by simpa using hr0
                      have td2 : decide (dv > 16000000000) = true := by simp; omega
                      have td3 : decide (16000000000 < dv) = true := by simp; omega
                      clear hr hr0
                      go_wp2_with fail
                      go_ret
                      exact ⟨by simp only [HV1.out]; rfl, by simp only [HV1.out]; exact HK10.out, HF10.out⟩
                  · rw [if_neg hr] at HV1
                    have hr1 : 0 ≤ dv := by omega
                    have hr2 : dv ≤ 16000000000 := by omega
                    have td : decide (dv < 0) = false := by simp; omega
                    have td2 : decide (dv > 16000000000) = false := by simp; omega
                    have td3 : decide (16000000000 < dv) = false := by simp; omega
                    clear hr
                    have HFL := Lib.hid (fun W : World => ref4_floor2 ov W (by omega) (by omega))
                    go_wp2_with fail
                    refine (HO.out _ _ ?_ ?_ ?_ ?_).mono ?_; iterate 4 (focus (simp [go_sem]; done))
                    rintro e w' ⟨rfl, rfl⟩
                    have k11 : Below w10.heap.size w10 (w10.alloc (.cells #[.int .i64 a2, .int .i64 (-sa), .int .i64 a3, .int .i64 (-hd)] 3)) := (Below.refl _ _).alloc (Nat.le_refl _) _
                    have HK11 := Lib.hid (HK10.out.below k11)
                    have HF11 := Lib.hid (HF10.out.next k11)
                    have Y11 := Lib.hid (Y10.out.below k11 Y10.out.lt)
                    clear k11
                    clear HK10 HF10 Y10 xa
                    generalize w10.alloc (.cells #[.int .i64 a2, .int .i64 (-sa), .int .i64 a3, .int .i64 (-hd)] 3) = w11 at *
                    go_wp2_with fail
                    refine (HFL.out _).mono ?_; rintro e w' ⟨rfl, rfl⟩
                    have hq1 : dv.tdiv 2 = dv / 2 := Int.tdiv_eq_ediv_of_nonneg hr1
                    have pd0 := HPK.out.d.1
                    have pd1 := HPK.out.d.2
                    have pr0 := HPK.out.r.1
                    have pr1 := HPK.out.r.2
                    simp only at pd0 pd1 pr0 pr1
                    have hq2 : pd.tdiv 2 = pd / 2 := Int.tdiv_eq_ediv_of_nonneg pd0
                    have wq1 : IntKind.i64.wrap (dv / 2) = dv / 2 := IntWalk.i64_in _ (by omega)
                    have wq2 : IntKind.i64.wrap (pd / 2) = pd / 2 := IntWalk.i64_in _ (by omega)
                    have HN1 := Lib.hid fun W : World => r_nanos pr W pr0 pr1
                    have HN2 := Lib.hid fun W : World => r_nanos (pd / 2) W (by omega) (by omega)
                    have nb1 := nan_bd pr pr0 pr1
                    have nb2 := nan_bd (pd / 2) (by omega) (by omega)
                    have HBY := Lib.hid fun (B : Nat) (W : World) q0 q1 q2 q3 => ref4_add4 (dv / 2) 1 (nanV pr) (nanV (pd / 2)) B W (by unfold I64; omega) (by unfold I64; omega) (by unfold I64; omega) (by unfold I64; omega) q0 q1 q2 q3
                    have hbv : addS (addS (addS (dv / 2) 1) (nanV pr)) (nanV (pd / 2)) = byV dv pd pr := rfl
                    rw [hbv] at HBY
                    have bB := byV_bd dv pd pr hr1 hr2 pd0 pd1 pr0 pr1
                    have oB2 : -4611686018427387904 ≤ ov / 2 ∧ ov / 2 ≤ 4611686018427387903 := by omega
                    clear hbv pd0 pd1 pr0 pr1 oB HD HO HFL
                    generalize byV dv pd pr = bw at *
                    generalize nanV pr = m1 at *
                    generalize nanV (pd / 2) = m2 at *
                    have HLO := Lib.hid fun (B : Nat) (W : World) q0 q1 => ref4_add2 (ov / 2) (-bw) B W (by omega) (by omega) q0 q1
                    have HHI := Lib.hid fun (B : Nat) (W : World) q0 q1 => ref4_add2 (ov / 2) bw B W (by omega) (by omega) q0 q1
                    have wby : IntKind.i64.wrap (-bw) = -bw := IntWalk.i64_in _ (by omega)
                    have SB1 := Lib.hid (addS_bd (ov / 2) (-bw))
                    have SB2 := Lib.hid (addS_bd (ov / 2) bw)
                    obtain ⟨y0, y1, y2, y3, y4, y5, y6, y7, yl⟩ := Y11.out
                    clear y0 y1 y2 y5 y6 y7 yl
                    go_wp2_with fail
                    refine wp_region_held_drew (S := fun w' => w'.cell? ⟨G, 3, none⟩ = some (.int .i64 pd) ∧ w'.cell? ⟨G, 4, none⟩ = some (.int .i64 pr)) (by kernel_rfl) ?_ (fun hHeld => ?_)
                    · exact ⟨y3, y4⟩
                    have k12 : Below w11.heap.size w11 w11.drew := (Below.refl _ _).drew
                    have HK12 := Lib.hid (HK11.out.below k12)
                    have HF12 := Lib.hid (HF11.out.next k12)
                    have Y12 := Lib.hid (Y11.out.below k12 Y11.out.lt)
                    have y3 : w11.drew.cell? ⟨G, 3, none⟩ = some (.int .i64 pd) := y3
                    have y4 : w11.drew.cell? ⟨G, 4, none⟩ = some (.int .i64 pr) := y4
                    clear k12 HK11 HF11 Y11
                    generalize w11.drew = w12 at *
                    refine tk9 0 ?_
                    refine tk9 1 ?_
                    refine tk9 2 ?_
                    refine tk9 3 ?_
                    refine tk9 5 ?_
                    refine tk9 6 ?_
                    refine tk9 7 ?_
                    refine wpAnyH_ready (rs := [4]) (by kernel_rfl) (by simp) ?_
                    refine AllReadyH.cons rfl (fun K hK => ?_) (AllReadyH.nil)
                    go_simp
                    (go_at_call 50; refine (HN1.out _).mono ?_; rintro e w' ⟨rfl, rfl⟩)
                    (try dsimp only)
                    refine hK.out _ _ ?_ (fun hHeld => ?_)
                    · exact ⟨y3, y4⟩
                    clear hK K
                    refine pt9 ?_
                    refine wpAnyH_ready (rs := [8]) (by kernel_rfl) (by simp) ?_
                    refine AllReadyH.cons rfl (fun K hK => ?_) (AllReadyH.nil)
                    go_simp
                    (go_at_call 50; refine (HN2.out _).mono ?_; rintro e w' ⟨rfl, rfl⟩)
                    (try dsimp only)
                    refine hK.out _ _ ?_ (fun hHeld => ?_)
                    · exact ⟨y3, y4⟩
                    clear hK K
                    refine pt9 ?_
                    refine wpAnyH_ready (rs := [9]) (by kernel_rfl) (by simp) ?_
                    refine AllReadyH.cons rfl (fun K hK => ?_) (AllReadyH.nil)
                    go_simp
                    have k13 : Below w12.heap.size w12 (w12.alloc (.cells #[.int .i64 (dv / 2), .int .i64 1, .int .i64 m1, .int .i64 m2] 3)) := (Below.refl _ _).alloc (Nat.le_refl _) _
                    have HK13 := Lib.hid (HK12.out.below k13)
                    have HF13 := Lib.hid (HF12.out.next k13)
                    have Y13 := Lib.hid (Y12.out.below k13 Y12.out.lt)
                    clear k13
                    have y3 : (w12.alloc (.cells #[.int .i64 (dv / 2), .int .i64 1, .int .i64 m1, .int .i64 m2] 3)).cell? ⟨G, 3, none⟩ = some (.int .i64 pd) := Y13.out.c3
                    have y4 : (w12.alloc (.cells #[.int .i64 (dv / 2), .int .i64 1, .int .i64 m1, .int .i64 m2] 3)).cell? ⟨G, 4, none⟩ = some (.int .i64 pr) := Y13.out.c4
                    have x0 : (w12.alloc (.cells #[.int .i64 (dv / 2), .int .i64 1, .int .i64 m1, .int .i64 m2] 3)).cell? ⟨w12.heap.size, 0, none⟩ = some (.int .i64 (dv / 2)) := by simp
                    have x1 : (w12.alloc (.cells #[.int .i64 (dv / 2), .int .i64 1, .int .i64 m1, .int .i64 m2] 3)).cell? ⟨w12.heap.size, 1, none⟩ = some (.int .i64 1) := by simp
                    have x2 : (w12.alloc (.cells #[.int .i64 (dv / 2), .int .i64 1, .int .i64 m1, .int .i64 m2] 3)).cell? ⟨w12.heap.size, 2, none⟩ = some (.int .i64 m1) := by simp
                    have x3 : (w12.alloc (.cells #[.int .i64 (dv / 2), .int .i64 1, .int .i64 m1, .int .i64 m2] 3)).cell? ⟨w12.heap.size, 3, none⟩ = some (.int .i64 m2) := by simp
                    (try dsimp only)
                    refine hK.out _ _ ?_ (fun hHeld => ?_)
                    · exact ⟨y3, y4⟩
                    clear hK K
                    refine pt9 ?_
                    clear HK12 HF12 Y12
                    generalize (w12.alloc (.cells #[.int .i64 (dv / 2), .int .i64 1, .int .i64 m1, .int .i64 m2] 3)) = w13 at *
                    generalize w12.heap.size = G4 at *
                    refine wpAnyH_ready (rs := [10]) (by kernel_rfl) (by simp) ?_
                    refine AllReadyH.cons rfl (fun K hK => ?_) (AllReadyH.nil)
                    go_simp
                    (go_at_call 37; refine (HBY.out G4 w13 x0 x1 x2 x3).mono ?_; rintro e w' ⟨rfl, rfl⟩)
                    (try dsimp only)
                    refine hK.out _ _ ?_ (fun hHeld => ?_)
                    · exact ⟨y3, y4⟩
                    clear hK K
                    refine pt9 ?_
                    refine tk9 11 ?_
                    refine wpAnyH_done (by kernel_rfl) ?_ _
                    clear x0 x1 x2 x3 y3 y4 hHeld HN1 HN2 HBY nb1 nb2 hq1 hq2 wq1 wq2
                    go_wp2_with fail
                    refine (HLO.out _ _ ?_ ?_).mono ?_; iterate 2 (focus (simp [go_sem]; done))
                    rintro e w' ⟨rfl, rfl⟩
                    have k14 : Below w13.heap.size w13 (w13.alloc (.cells #[.int .i64 (ov / 2), .int .i64 (-bw)] 3)) := (Below.refl _ _).alloc (Nat.le_refl _) _
                    have HK14 := Lib.hid (HK13.out.below k14)
                    have HF14 := Lib.hid (HF13.out.next k14)
                    have Y14 := Lib.hid (Y13.out.below k14 Y13.out.lt)
                    clear k14
                    clear HK13 HF13 Y13
                    generalize w13.alloc (.cells #[.int .i64 (ov / 2), .int .i64 (-bw)] 3) = w14 at *
                    go_wp2_with fail
                    refine (HHI.out _ _ ?_ ?_).mono ?_; iterate 2 (focus (simp [go_sem]; done))
                    rintro e w' ⟨rfl, rfl⟩
                    have k15 : Below w14.heap.size w14 (w14.alloc (.cells #[.int .i64 (ov / 2), .int .i64 bw] 3)) := (Below.refl _ _).alloc (Nat.le_refl _) _
                    have HK15 := Lib.hid (HK14.out.below k15)
                    have HF15 := Lib.hid (HF14.out.next k15)
                    have Y15 := Lib.hid (Y14.out.below k15 Y14.out.lt)
                    clear k15
                    clear HK14 HF14 Y14 HLO HHI
                    generalize w14.alloc (.cells #[.int .i64 (ov / 2), .int .i64 bw] 3) = w15 at *
                    generalize addS (ov / 2) (-bw) = lo at *
                    generalize addS (ov / 2) bw = hi' at *
                    obtain ⟨x0, x1, x2, x3, x4, x5⟩ := HK15.out.sixR i hi
                    have f2 := HK15.out.sf (i * 6 + 2)
                    have f3 := HK15.out.sf (i * 6 + 3)
                    have f4 := HK15.out.sf (i * 6 + 4)
                    have f5 := HK15.out.sf (i * 6 + 5)
                    have r1 := HK15.out.store i 2 hi (by omega) { K2.S i with lo := lo } (.int .i64 lo) rfl (fun q hq hne => by unfold layR; simp [hne])
                    have r2 := r1.store i 3 hi (by omega) { K2.S i with lo := lo, hi := hi' } (.int .i64 hi') rfl (fun q hq hne => by simp only [updS_same]; unfold layR; simp [hne])
                    have r3 := r2.store i 4 hi (by omega) { K2.S i with lo := lo, hi := hi', has := true } (.bool true) rfl (fun q hq hne => by simp only [updS_same]; unfold layR; simp [hne])
                    have r4 := r3.store i 5 hi (by omega) { K2.S i with has := true, h := hd, lo := lo, hi := hi' } (.int .i64 hd) rfl (fun q hq hne => by simp only [updS_same]; rcases (show q = 0 ∨ q = 1 ∨ q = 2 ∨ q = 3 ∨ q = 4 from by omega) with rfl | rfl | rfl | rfl | rfl <;> simp [layR])
                    have R4 : Hid (Nc layR ((((w15.setCell ⟨bs, i * 6 + 2, none⟩ (.int .i64 lo)).setCell ⟨bs, i * 6 + 3, none⟩ (.int .i64 hi')).setCell ⟨bs, i * 6 + 4, none⟩ (.bool true)).setCell ⟨bs, i * 6 + 5, none⟩ (.int .i64 hd)) b bc bs A n cc x z N (smpK K2 i hd lo hi')) := Lib.hid (r4.congr (S' := (smpK K2 i hd lo hi').S) (fun j _ => by simp only [smpK, updS_upd]))
                    have HF4 : Hid (But (Ft b bc bs) w ((((w15.setCell ⟨bs, i * 6 + 2, none⟩ (.int .i64 lo)).setCell ⟨bs, i * 6 + 3, none⟩ (.int .i64 hi')).setCell ⟨bs, i * 6 + 4, none⟩ (.bool true)).setCell ⟨bs, i * 6 + 5, none⟩ (.int .i64 hd))) := Lib.hid ((((HF15.out.setCell (p := ⟨bs, i * 6 + 2, none⟩) (fun _ => .inr (.inr rfl)) (.int .i64 lo)).setCell (p := ⟨bs, i * 6 + 3, none⟩) (fun _ => .inr (.inr rfl)) (.int .i64 hi')).setCell (p := ⟨bs, i * 6 + 4, none⟩) (fun _ => .inr (.inr rfl)) (.bool true)).setCell (p := ⟨bs, i * 6 + 5, none⟩) (fun _ => .inr (.inr rfl)) (.int .i64 hd))
                    have HOK6 := Lib.hid (HOK5.out.smp i hi hd lo hi' hh0.1 hh0.2 SB1.out SB2.out)
                    have HTU := Lib.hid (r_settles R4.out HOK6.out hN count hcc)
                    have e3 : (smpK K2 i hd lo hi').t = hd := HHD.out
                    rw [e3] at HTU
                    clear r1 r2 r3 r4 e3 HK15 HF15 Y15
                    go_wp2_with fail
                    refine HTU.out.mono ?_; rintro e w30 ⟨rfl, hk30, hb30⟩
                    have HK30 := Lib.hid hk30
                    have HF30 := Lib.hid (HF4.out.trans (T := Ft b bc bs) hb30 (fun _ _ q => q))
                    clear hk30 hb30
                    go_wp2_with fail
                    go_ret
                    exact ⟨by simp only [HV1.out]; rfl, by simp only [HV1.out]; exact HK30.out, HF30.out⟩
              · as_aux_lemma =>
                rw [if_pos he3] at HV1
                have te : (e3 != 0) = true := by simpa using he3
                clear he3
                go_wp2_with fail
                go_ret
                exact ⟨by simp only [HV1.out]; rfl, by simp only [HV1.out]; exact HK9.out, HF9.out⟩
            · as_aux_lemma =>
              rw [if_pos he2] at HV1
              have te : (e2 != 0) = true := by simpa using he2
              clear he2
              go_wp2_with fail
              go_ret
              exact ⟨by simp only [HV1.out]; rfl, by simp only [HV1.out]; exact HK8.out, HF8.out⟩
  · as_aux_lemma =>
    have tm : (pm != 4) = true := by simpa using hm
    have HV := Lib.hid (show hearK rstR z n x N K i count ⟨pl, pm, ps, pd, pr, po, pv, pt⟩ = (3, K) from by unfold hearK; rw [if_pos hm])
    clear hm
    obtain ⟨y0, y1, y2, y3, y4, y5, y6, y7, yl⟩ := Y.out
    go_wp2_with fail
    go_ret
    exact ⟨by simp only [HV.out]; rfl, by simp only [HV.out]; exact HK2.out, But.of_below HB2.out⟩
end Go.Proofs.YtepdnkpmkhjlgaaGreat

/- The reference's UTC of any moment: some answer; the law's stamp of any moment: some number (written by gen/ref4utca.py). -/
namespace Go.Proofs.YtepdnkpmkhjlgaaGreat
open Go.RowKit Go.Sort

theorem ref4_tai_any (A : Option Addr) (n c : Nat) (x day nano : Int) (z : Nat → Int) (w : World) (hz : FlatAt w A 2 n z) (hn : n ≤ maxLen) (ht : IsTab z n x) :
    Calls Tryz.prog 73 #[.agg #[.slice A n c, .int .i64 x], .agg #[.int .i64 day, .int .i64 nano]] w fun e w' => (∃ v k : Int, e = .returned (.tuple #[.int .i64 v, .int .i64 k])) ∧ Below w.heap.size w w' := by
  by_cases hd : day < -719162 ∨ 2932896 < day
  · exact (ref4_tai_day A n c x day nano z w hz hn ht hd).mono fun e w' h => ⟨⟨_, _, h.1⟩, h.2⟩
  · by_cases h0 : nano < 0
    · exact (ref4_tai_neg A n c x day nano z w hz hn ht (by omega) (by omega) h0).mono fun e w' h => ⟨⟨_, _, h.1⟩, h.2⟩
    · by_cases h1 : lenS z n day * 1000000000 ≤ nano
      · exact (ref4_tai_late A n c x day nano z w hz hn ht (by omega) (by omega) (by omega) h1).mono fun e w' h => ⟨⟨_, _, h.1⟩, h.2⟩
      · exact (ref4_tai_ok A n c x day nano z w hz hn ht (by omega) (by omega) (by omega) (by omega)).mono fun e w' h => ⟨⟨_, _, h.1⟩, h.2⟩
/-- The days of a moment ahead of 1970, as the reference's Floor reckons. -/
theorem ref4_floor_neg (a : Int) (h0 : -9223372036854775808 ≤ a) (h1 : a < 0) : ∃ D : Int, -106753 ≤ D ∧ D ≤ 0 ∧ ∀ W : World, Calls Tryz.prog 49 #[.int .i64 a, .int .i64 86400000000000] W fun e w' => e = .returned (.int .i64 D) ∧ W = w' := by
  have e : a = -(-a) := by omega
  have e1 : a.tdiv 86400000000000 = -((-a) / 86400000000000) := by
    conv => lhs; rw [e]
    rw [Int.neg_tdiv, Int.tdiv_eq_ediv_of_nonneg (by omega)]
  have b : -106752 ≤ a.tdiv 86400000000000 ∧ a.tdiv 86400000000000 ≤ 0 := by rw [e1]; omega
  clear e e1
  by_cases hc : a.tmod 86400000000000 < 0
  · have t : decide (a.tmod 86400000000000 < 0) = true := by simpa using hc
    refine ⟨a.tdiv 86400000000000 - 1, by omega, by omega, fun W => ?_⟩
    have b1 : -9223372036854775808 ≤ a.tdiv 86400000000000 - 1 ∧ a.tdiv 86400000000000 - 1 ≤ 9223372036854775807 := by omega
    have b2 : -9223372036854775808 ≤ a.tdiv 86400000000000 ∧ a.tdiv 86400000000000 ≤ 9223372036854775807 := by omega
    clear hc b
    go_enter Tryz.func49, Tryz.ntmps49
    go_wp2
    go_ret
    exact ⟨rfl, rfl⟩
  · have t : decide (a.tmod 86400000000000 < 0) = false := by simpa using hc
    refine ⟨a.tdiv 86400000000000, by omega, by omega, fun W => ?_⟩
    have b2 : -9223372036854775808 ≤ a.tdiv 86400000000000 ∧ a.tdiv 86400000000000 ≤ 9223372036854775807 := by omega
    clear hc b
    go_enter Tryz.func49, Tryz.ntmps49
    go_wp2
    go_ret
    exact ⟨rfl, rfl⟩
def UtcAns (w : World) (e : Ending) (w' : World) : Prop := (∃ d m k : Int, e = .returned (.tuple #[.agg #[.int .i64 d, .int .i64 m], .int .i64 k])) ∧ Below w.heap.size w w'
theorem r_utc_maxA (A : Option Addr) (n c : Nat) (x : Int) (z : Nat → Int) (w : World) (hz : FlatAt w A 2 n z) (hT : IsTab z n x) :
    Calls Tryz.prog 43 #[.agg #[.slice A n c, .int .i64 x], .int .i64 9223372036854775807] w fun e w' => e = .returned (.tuple #[.agg #[.int .i64 0, .int .i64 0], .int .i64 11]) ∧ Below w.heap.size w w' := by
  have hn : n ≤ maxLen := by have := hT.2.1; unfold maxLen; omega
  have HB0 : Below w.heap.size w ((w.alloc (.cells #[.slice A n c, .int .i64 x] 24)).alloc (.cells #[.int .i64 0, .int .i64 0] 105)) := by (repeat' (first | (with_reducible exact Below.refl _ _) | (with_reducible assumption) | (with_reducible refine Below.trans ?_ (Below.mono (by with_reducible assumption) ?_)) | (with_reducible refine Below.alloc ?_ ?_ _) | (with_reducible refine Below.setCell ?_ ?_ _) | (with_reducible refine below_drewN ?_ _) | (with_reducible refine Below.drew ?_) | go_size))
  have HIS := Lib.hid (ref3_is A n c x z _ true (hz.below HB0) hn ⟨fun _ => hT, fun _ => rfl⟩)
  have l0 : w.heap.size + 1 < ((w.alloc (.cells #[.slice A n c, .int .i64 x] 24)).alloc (.cells #[.int .i64 0, .int .i64 0] 105)).heap.size := by simp
  have I0 : Ints2 ((w.alloc (.cells #[.slice A n c, .int .i64 x] 24)).alloc (.cells #[.int .i64 0, .int .i64 0] 105)) (w.heap.size + 1) 0 0 := by
    have := Ints2.new (w.alloc (.cells #[.slice A n c, .int .i64 x] 24)) 0 0 105
    rwa [World.size_alloc] at this
  clear hz
  go_enter Tryz.func43, Tryz.ntmps43
  go_wp2_with fail
  refine HIS.out.mono ?_; rintro e w1 ⟨rfl, k1⟩
  have I1 := I0.below k1 l0
  have HB1 := HB0.trans (k1.mono HB0.size)
  have J := (I1.set0 0).set1 0
  have JC := Lib.hid (And.intro J.c0 J.c1)
  obtain ⟨i0, i1, if0, if1, il⟩ := I1
  have HB2 := Lib.hid ((HB1.setCell (p := ⟨w.heap.size + 1, 0, none⟩) (Nat.le_succ _) (.int .i64 0)).setCell (p := ⟨w.heap.size + 1, 1, none⟩) (Nat.le_succ _) (.int .i64 0))
  clear k1 HB0 HB1 I0 J l0 HIS
  go_wp2_with fail
  have j0 := JC.out.1
  have j1 := JC.out.2
  refine bodyPost_ret (v := .tuple #[.agg #[.int .i64 0, .int .i64 0], .int .i64 11]) (by simp [results, Tryz.results43, go_sem, j0, j1]) rfl ⟨rfl, HB2.out⟩
theorem r_utc_min (A : Option Addr) (n c : Nat) (x : Int) (z : Nat → Int) (w : World) (hz : FlatAt w A 2 n z) (hT : IsTab z n x) :
    Calls Tryz.prog 43 #[.agg #[.slice A n c, .int .i64 x], .int .i64 (-9223372036854775808)] w (UtcAns w) := by
  have hn : n ≤ maxLen := by have := hT.2.1; unfold maxLen; omega
  have HB0 : Below w.heap.size w ((w.alloc (.cells #[.slice A n c, .int .i64 x] 24)).alloc (.cells #[.int .i64 0, .int .i64 0] 105)) := by (repeat' (first | (with_reducible exact Below.refl _ _) | (with_reducible assumption) | (with_reducible refine Below.trans ?_ (Below.mono (by with_reducible assumption) ?_)) | (with_reducible refine Below.alloc ?_ ?_ _) | (with_reducible refine Below.setCell ?_ ?_ _) | (with_reducible refine below_drewN ?_ _) | (with_reducible refine Below.drew ?_) | go_size))
  have HIS := Lib.hid (ref3_is A n c x z _ true (hz.below HB0) hn ⟨fun _ => hT, fun _ => rfl⟩)
  have l0 : w.heap.size + 1 < ((w.alloc (.cells #[.slice A n c, .int .i64 x] 24)).alloc (.cells #[.int .i64 0, .int .i64 0] 105)).heap.size := by simp
  have I0 : Ints2 ((w.alloc (.cells #[.slice A n c, .int .i64 x] 24)).alloc (.cells #[.int .i64 0, .int .i64 0] 105)) (w.heap.size + 1) 0 0 := by
    have := Ints2.new (w.alloc (.cells #[.slice A n c, .int .i64 x] 24)) 0 0 105
    rwa [World.size_alloc] at this
  clear hz
  go_enter Tryz.func43, Tryz.ntmps43
  go_wp2_with fail
  refine HIS.out.mono ?_; rintro e w1 ⟨rfl, k1⟩
  have I1 := I0.below k1 l0
  have HB1 := HB0.trans (k1.mono HB0.size)
  have J := (I1.set0 0).set1 0
  have JC := Lib.hid (And.intro J.c0 J.c1)
  obtain ⟨i0, i1, if0, if1, il⟩ := I1
  have HB2 := Lib.hid ((HB1.setCell (p := ⟨w.heap.size + 1, 0, none⟩) (Nat.le_succ _) (.int .i64 0)).setCell (p := ⟨w.heap.size + 1, 1, none⟩) (Nat.le_succ _) (.int .i64 0))
  clear k1 HB0 HB1 I0 J l0 HIS
  go_wp2_with fail
  have j0 := JC.out.1
  have j1 := JC.out.2
  refine bodyPost_ret (v := .tuple #[.agg #[.int .i64 0, .int .i64 0], .int .i64 11]) (by simp [results, Tryz.results43, go_sem, j0, j1]) rfl ⟨⟨_, _, _, rfl⟩, HB2.out⟩
set_option maxRecDepth 100000 in
set_option maxHeartbeats 16000000 in
theorem r_utc_neg (A : Option Addr) (n c : Nat) (x a : Int) (z : Nat → Int) (w : World) (hz : FlatAt w A 2 n z) (hT : IsTab z n x) (h0 : -9223372036854775807 ≤ a) (h1 : a < 0) :
    Calls Tryz.prog 43 #[.agg #[.slice A n c, .int .i64 x], .int .i64 a] w (UtcAns w) := by
  have hn : n ≤ maxLen := by have := hT.2.1; unfold maxLen; omega
  obtain ⟨D, d0, d1, hfl⟩ := ref4_floor_neg a (by omega) h1
  have HFL := Lib.hid hfl
  have HFD := Lib.hid fun (d : Int) (W : World) (k : Below w.heap.size w W) p q => ref4_first A n c x d z W (hz.below k) hT p q
  have HIS := Lib.hid fun (W : World) (k : Below w.heap.size w W) => ref3_is A n c x z W true (hz.below k) hn ⟨fun _ => hT, fun _ => rfl⟩
  have HTA := Lib.hid fun (W : World) (k : Below w.heap.size w W) (d m : Int) => ref4_tai_any A n c x d m z W (hz.below k) hn hT
  have HU0 : Hid (UQ w ((w.alloc (.cells #[.slice A n c, .int .i64 x] 24)).alloc (.cells #[.int .i64 0, .int .i64 0] 105)) A n c x) := Lib.hid ⟨by simp, by simp, by
      have := Ints2.new (w.alloc (.cells #[.slice A n c, .int .i64 x] 24)) 0 0 105
      rwa [World.size_alloc] at this, by (repeat' (first | (with_reducible exact Below.refl _ _) | (with_reducible assumption) | (with_reducible refine Below.trans ?_ (Below.mono (by with_reducible assumption) ?_)) | (with_reducible refine Below.alloc ?_ ?_ _) | (with_reducible refine Below.setCell ?_ ?_ _) | (with_reducible refine below_drewN ?_ _) | (with_reducible refine Below.drew ?_) | go_size))⟩
  have u1 : (a == 9223372036854775807) = false := by rw [beq_eq_false_iff_ne]; omega
  have u2 : (a == -9223372036854775808) = false := by rw [beq_eq_false_iff_ne]; omega
  have wD : IntKind.i64.wrap (D + 1) = D + 1 := IntWalk.i64_in _ (by omega)
  have wD2 : IntKind.i64.wrap (D - 2) = D - 2 := IntWalk.i64_in _ (by omega)
  clear hz hn hfl
  go_enter Tryz.func43, Tryz.ntmps43
  go_wp2_with fail
  refine (HIS.out _ HU0.out.bel).mono ?_; rintro e w1 ⟨rfl, k1⟩
  have HU1 := Lib.hid (HU0.out.below k1)
  clear k1 HU0 HIS
  go_wp2_with fail
  refine (HFL.out _).mono ?_; rintro e w2 ⟨rfl, rfl⟩
  go_wp2_with fail
  go_loopw [6] (fun i wr => ∃ k : Nat, k ≤ 4 ∧ i = .int .i64 (D + 1 - k) ∧ UQ w wr A n c x) (fun i _ => (intOf i - (D - 5)).toNat)
  case atStart => exact ⟨0, by omega, by simp, HU1.out⟩
  case round =>
    obtain ⟨k, hk, rfl, hU⟩ := hrel
    clear HU1
    obtain ⟨day, hday⟩ : ∃ day : Int, D + 1 - k = day := ⟨_, rfl⟩
    have hdb : -106757 ≤ day ∧ day ≤ 1 := by omega
    have HDAY := Lib.hid hday
    have HU := Lib.hid hU
    have hsz := hU.ans.lt
    obtain ⟨b0, b1, hans, hbel⟩ := hU
    rw [hday]
    have wd1 : IntKind.i64.wrap (day - 1) = day - 1 := IntWalk.i64_in _ (by omega)
    by_cases hend : day < D - 2
    · have hge : decide (day ≥ D - 2) = false := by simp; omega
      have hge2 : decide (D - 2 ≤ day) = false := by simp; omega
      have J := Lib.hid ((hans.set0 0).set1 0)
      have HB6 := Lib.hid ((hbel.setCell (p := ⟨w.heap.size + 1, 0, none⟩) (Nat.le_succ _) (.int .i64 0)).setCell (p := ⟨w.heap.size + 1, 1, none⟩) (Nat.le_succ _) (.int .i64 0))
      obtain ⟨i0, i1, if0, if1, il⟩ := hans
      clear hday hbel HFD HTA
      go_wp2_with fail
      refine (HFL.out _).mono ?_; rintro e w' ⟨rfl, rfl⟩
      go_wp2_with fail
      have j0 := J.out.c0
      have j1 := J.out.c1
      refine bodyPost_ret (v := .tuple #[.agg #[.int .i64 0, .int .i64 0], .int .i64 11]) (by simp [results, Tryz.results43, go_sem, j0, j1]) rfl ⟨⟨_, _, _, rfl⟩, HB6.out⟩
    · have hge : decide (day ≥ D - 2) = true := by simp; omega
      have hge2 : decide (D - 2 ≤ day) = true := by simp; omega
      have hk3 : k ≤ 3 := by omega
      have HK3 := Lib.hid hk3
      have HF := Lib.hid fun (W : World) (kW : Below w.heap.size w W) => HFD.out day W kW (by omega) (by omega)
      have hFb := addS_bd (mulS day 86400000000000) (mulS (offK z day n) 1000000000)
      obtain ⟨F, hF⟩ : ∃ F, addS (mulS day 86400000000000) (mulS (offK z day n) 1000000000) = F := ⟨_, rfl⟩
      rw [hF] at HF hFb
      clear hday hF hans hbel hend hk3
      by_cases hgt : a < F
      · have tg : decide (F > a) = true := by simpa using hgt
        have tg2 : decide (a < F) = true := by simpa using hgt
        go_wp2_with fail
        refine (HFL.out _).mono ?_; rintro e w' ⟨rfl, rfl⟩
        go_wp2_with fail
        refine (HF.out wr HU.out.bel).mono ?_; rintro e w3 ⟨rfl, k3⟩
        have HU3 := Lib.hid (HU.out.below k3)
        clear k3
        go_wp2_with fail
        go_roundw
        case rel => exact ⟨k + 1, by have := HK3.out; omega, by rw [← HDAY.out]; congr 1; omega, HU3.out⟩
        all_goals (have e1 := HDAY.out; (try simp only [intOf]); omega)
      · have tg : decide (F > a) = false := by simpa using hgt
        have tg2 : decide (a < F) = false := by simpa using hgt
        have wF : IntKind.i64.wrap (a - F) = a - F := IntWalk.i64_in _ (by omega)
        go_wp2_with fail
        refine (HFL.out _).mono ?_; rintro e w' ⟨rfl, rfl⟩
        go_wp2_with fail
        refine (HF.out wr HU.out.bel).mono ?_; rintro e w3 ⟨rfl, k3⟩
        have HU3 := Lib.hid (HU.out.below k3)
        have b0 := HU3.out.b0
        have b1 := HU3.out.b1
        clear k3 HU
        go_wp2_with fail
        refine (HF.out w3 HU3.out.bel).mono ?_; rintro e w4 ⟨rfl, k4⟩
        have HU4 := Lib.hid (HU3.out.below k4)
        have b0 := HU4.out.b0
        have b1 := HU4.out.b1
        clear k4 HU3
        have EC : (w4.alloc (.cells #[.int .i64 day, .int .i64 (a - F)] 105)).cell? ⟨w4.heap.size, 0, none⟩ = some (.int .i64 day) ∧ (w4.alloc (.cells #[.int .i64 day, .int .i64 (a - F)] 105)).cell? ⟨w4.heap.size, 1, none⟩ = some (.int .i64 (a - F)) := ⟨by simp, by simp⟩
        have kk : Below w4.heap.size w4 (w4.alloc (.cells #[.int .i64 day, .int .i64 (a - F)] 105)) := (Below.refl _ _).alloc (Nat.le_refl _) _
        have HU5 := Lib.hid (HU4.out.below kk)
        have b0 := HU5.out.b0
        have b1 := HU5.out.b1
        have hs4 := HU4.out.ans.lt
        have EL : w4.heap.size < (w4.alloc (.cells #[.int .i64 day, .int .i64 (a - F)] 105)).heap.size := by simp
        have EE := Lib.hid (And.intro EC (And.intro EL hs4))
        clear EC kk EL hs4 HU4
        go_wp2_with fail
        refine (HTA.out _ HU5.out.bel day (a - F)).mono ?_; rintro e w6 ⟨⟨v, k, rfl⟩, k6⟩
        have HU6 := Lib.hid (HU5.out.below k6)
        have x0 := (k6.cell (p := ⟨w4.heap.size, 0, none⟩) EE.out.2.1).trans EE.out.1.1
        have x1 := (k6.cell (p := ⟨w4.heap.size, 1, none⟩) EE.out.2.1).trans EE.out.1.2
        have hans6 := HU6.out.ans
        have hb6 := HU6.out.bel
        have J := Lib.hid ((hans6.set0 day).set1 (a - F))
        have HB6 := Lib.hid ((hb6.setCell (p := ⟨w.heap.size + 1, 0, none⟩) (Nat.le_succ _) (.int .i64 day)).setCell (p := ⟨w.heap.size + 1, 1, none⟩) (Nat.le_succ _) (.int .i64 (a - F)))
        have JZ := Lib.hid ((hans6.set0 0).set1 0)
        have HBZ := Lib.hid ((hb6.setCell (p := ⟨w.heap.size + 1, 0, none⟩) (Nat.le_succ _) (.int .i64 0)).setCell (p := ⟨w.heap.size + 1, 1, none⟩) (Nat.le_succ _) (.int .i64 0))
        obtain ⟨i0, i1, if0, if1, il⟩ := hans6
        clear k6 HU5 EE hb6 HTA HFD HF
        by_cases hok : (k == 0) = true ∧ (v == a) = true
        · have t1 := hok.1
          have t2 := hok.2
          clear hok
          go_wp2_with fail
          have j0 := J.out.c0
          have j1 := J.out.c1
          refine bodyPost_ret (v := .tuple #[.agg #[.int .i64 day, .int .i64 (a - F)], .int .i64 0]) (by simp [results, Tryz.results43, go_sem, j0, j1]) rfl ⟨⟨_, _, _, rfl⟩, HB6.out⟩
        · by_cases t1 : (k == 0) = true
          · have t2 : (v == a) = false := by
              cases hv : (v == a)
              · rfl
              · exact absurd ⟨t1, hv⟩ hok
            clear hok
            go_wp2_with fail
            have j0 := JZ.out.c0
            have j1 := JZ.out.c1
            refine bodyPost_ret (v := .tuple #[.agg #[.int .i64 0, .int .i64 0], .int .i64 11]) (by simp [results, Tryz.results43, go_sem, j0, j1]) rfl ⟨⟨_, _, _, rfl⟩, HBZ.out⟩
          · have t1 : (k == 0) = false := by simpa using t1
            clear hok
            go_wp2_with fail
            have j0 := JZ.out.c0
            have j1 := JZ.out.c1
            refine bodyPost_ret (v := .tuple #[.agg #[.int .i64 0, .int .i64 0], .int .i64 11]) (by simp [results, Tryz.results43, go_sem, j0, j1]) rfl ⟨⟨_, _, _, rfl⟩, HBZ.out⟩
theorem r_utc_any (A : Option Addr) (n c : Nat) (x a : Int) (z : Nat → Int) (w : World) (hz : FlatAt w A 2 n z) (hT : IsTab z n x) (ha : I64 a) :
    Calls Tryz.prog 43 #[.agg #[.slice A n c, .int .i64 x], .int .i64 a] w (UtcAns w) := by
  obtain ⟨a0, a1⟩ := ha
  by_cases e1 : a = 9223372036854775807
  · subst e1
    exact (r_utc_maxA A n c x z w hz hT).mono fun e w' h => ⟨⟨_, _, _, h.1⟩, h.2⟩
  by_cases e2 : a = -9223372036854775808
  · subst e2
    exact r_utc_min A n c x z w hz hT
  by_cases e3 : 0 ≤ a
  · exact (ref4_utc A n c x a z w hz hT e3 (by omega)).mono fun e w' h => ⟨⟨_, _, _, h.1⟩, h.2⟩
  · exact r_utc_neg A n c x a z w hz hT (by omega) (by omega)
theorem ref5_stamp_any (d m : Int) (w : World) : Calls Tryz.prog 44 #[.agg #[.int .i64 d, .int .i64 m]] w fun e w' => (∃ s k : Int, e = .returned (.tuple #[.int .u64 s, .int .i64 k]) ∧ 0 ≤ s ∧ s < 18446744073709551616) ∧ Below w.heap.size w w' := by
  by_cases h : momOk d m = true
  · have lo := (momOk_yes h).2.1
    have b := (stampOf_div d m lo).2.2
    exact (ref5_stamp_yes d m w h).mono fun e w' q => ⟨⟨_, _, q.1, b.1, b.2⟩, q.2⟩
  · have h : momOk d m = false := by simpa using h
    exact (ref5_stamp_no d m w h).mono fun e w' q => ⟨⟨_, _, q.1, by omega, by omega⟩, q.2⟩
/-- The law's stamp of any moment: some number of 64 bits. -/
theorem law_stamp_any (A : Option Addr) (n c : Nat) (x tai : Int) (z : Nat → Int) (w : World) (hz : FlatAt w A 2 n z) (hT : IsTab z n x) (ht : I64 tai) :
    Calls Tryz.prog 18 #[.agg #[.slice A n c, .int .i64 x], .int .i64 tai] w fun e w' => (∃ s : Int, e = .returned (.int .u64 s) ∧ 0 ≤ s ∧ s < 18446744073709551616) ∧ Below w.heap.size w w' := by
  have HB0 : Below w.heap.size w (w.alloc (.cells #[.slice A n c, .int .i64 x] 24)) := by (repeat' (first | (with_reducible exact Below.refl _ _) | (with_reducible assumption) | (with_reducible refine Below.trans ?_ (Below.mono (by with_reducible assumption) ?_)) | (with_reducible refine Below.alloc ?_ ?_ _) | (with_reducible refine Below.setCell ?_ ?_ _) | (with_reducible refine below_drewN ?_ _) | (with_reducible refine Below.drew ?_) | go_size))
  have HU := Lib.hid (r_utc_any A n c x tai z _ (hz.below HB0) hT ht)
  clear hz hT ht
  go_enter Tryz.func18, Tryz.ntmps18
  go_wp2_with fail
  refine HU.out.mono ?_; rintro e w1 ⟨⟨d, m, k, rfl⟩, k1⟩
  have HB1 := HB0.trans (k1.mono HB0.size)
  have HB2 := HB1.alloc HB1.size (.cells #[.int .i64 d, .int .i64 m] 105)
  have HS := Lib.hid (fun W : World => ref5_stamp_any d m W)
  clear k1 HB0 HB1 HU
  go_wp2_with fail
  refine (HS.out _).mono ?_; rintro e w2 ⟨⟨s, k2, rfl, s0, s1⟩, kb⟩
  have HB3 := Lib.hid (HB2.trans (kb.mono HB2.size))
  clear kb HB2
  by_cases t1 : (k != 0) = true
  · go_wp2_with fail
    go_ret
    exact ⟨⟨0, rfl, by omega, by omega⟩, HB3.out⟩
  · have t1 : (k != 0) = false := by simpa using t1
    by_cases t2 : (k2 != 0) = true
    · go_wp2_with fail
      go_ret
      exact ⟨⟨0, rfl, by omega, by omega⟩, HB3.out⟩
    · have t2 : (k2 != 0) = false := by simpa using t2
      go_wp2_with fail
      go_ret
      exact ⟨⟨s, rfl, s0, s1⟩, HB3.out⟩
end Go.Proofs.YtepdnkpmkhjlgaaGreat

/- NTP: the law's answer to any act: some packet (written by gen/ntansa.py). -/
namespace Go.Proofs.YtepdnkpmkhjlgaaGreat
open Go.RowKit Go.Sort

theorem and7_any (v : Int) : ∃ i : Nat, i < 8 ∧ bits .and .i64 v 7 = (i : Int) := by
  have h := bits_and_le v 7 (by omega)
  have h' : 0 ≤ bits .and .i64 v 7 ∧ bits .and .i64 v 7 ≤ 7 := h
  obtain ⟨i, hi⟩ := Int.eq_ofNat_of_zero_le h'.1
  exact ⟨i, by omega, hi⟩
theorem W8.mkR9 (w : World) (l m s d r o v t : Int) : W8 (w.alloc (pkR l m s d r o v t)) w.heap.size l m s d r o v t := ⟨Box8.newR w l m s d r o v t, fun j => by simp⟩
set_option maxRecDepth 100000 in
set_option maxHeartbeats 16000000 in
theorem law_answer_any {w : World} {bp b bc bs : Nat} {A1 : Option Addr} {c1 : Nat} {rb rbc rbs : Nat} {A2 : Option Addr} {c2 : Nat} {ad : Addr} {n c : Nat} {x : Int} {z : Nat → Int} {N : Nat} {m0 m1 m2 : Nat} {K R : Cs} {cnt : Int} {asked when_ : Nat → Int} (h : Pr w bp b bc bs A1 c1 rb rbc rbs A2 c2 ad n c x z N m0 m1 m2 K R cnt asked when_) (kd sv tt ah tk wy : Int) (Ab : Option Addr) (nb cb : Nat) (i : Nat) (hi : i < 8) (han : bits .and .i64 sv 7 = (i : Int)) (hah : I64 ah) (htk : I64 tk) (hwh : I64 (when_ i)) (ha : 0 ≤ asked i ∧ asked i < 18446744073709551616) :
    Calls Tryz.prog 16 #[.pointer (some ⟨bp, 0, none⟩), .agg #[.int .i64 kd, .int .i64 sv, .int .i64 tt, .int .i64 ah, .int .i64 tk, .int .i64 wy, .slice Ab nb cb]] w fun e w' => (∃ g cap p, e = .returned (.slice (some ⟨g, 0, none⟩) 48 cap) ∧ w.heap.size ≤ g ∧ PkAt w' g cap p ∧ p.ok) ∧ Below w.heap.size w w' := by
  have hT := h.P.tb
  have kk : Below w.heap.size w (w.alloc (.cells #[.int .i64 kd, .int .i64 sv, .int .i64 tt, .int .i64 ah, .int .i64 tk, .int .i64 wy, .slice Ab nb cb] 41)) := (Below.refl _ _).alloc (Nat.le_refl _) _
  have HP0 := Lib.hid (h.below kk)
  have HB0 := Lib.hid kk
  have a1 : (w.alloc (.cells #[.int .i64 kd, .int .i64 sv, .int .i64 tt, .int .i64 ah, .int .i64 tk, .int .i64 wy, .slice Ab nb cb] 41)).cell? ⟨w.heap.size, 1, none⟩ = some (.int .i64 sv) := by simp
  have a3 : (w.alloc (.cells #[.int .i64 kd, .int .i64 sv, .int .i64 tt, .int .i64 ah, .int .i64 tk, .int .i64 wy, .slice Ab nb cb] 41)).cell? ⟨w.heap.size, 3, none⟩ = some (.int .i64 ah) := by simp
  have a4 : (w.alloc (.cells #[.int .i64 kd, .int .i64 sv, .int .i64 tt, .int .i64 ah, .int .i64 tk, .int .i64 wy, .slice Ab nb cb] 41)).cell? ⟨w.heap.size, 4, none⟩ = some (.int .i64 tk) := by simp
  have a5 : (w.alloc (.cells #[.int .i64 kd, .int .i64 sv, .int .i64 tt, .int .i64 ah, .int .i64 tk, .int .i64 wy, .slice Ab nb cb] 41)).cell? ⟨w.heap.size, 5, none⟩ = some (.int .i64 wy) := by simp
  have la : w.heap.size < (w.alloc (.cells #[.int .i64 kd, .int .i64 sv, .int .i64 tt, .int .i64 ah, .int .i64 tk, .int .i64 wy, .slice Ab nb cb] 41)).heap.size := by simp
  have li : (i : Int) < 8 := by omega
  obtain ⟨u, hu⟩ : ∃ u, when_ i = u := ⟨_, rfl⟩
  rw [hu] at hwh
  have HWU := Lib.hid hu
  have hsum : I64 (addS u ah) := addS_bd u ah
  have HA1 := Lib.hid fun (Bk : Nat) (W : World) q0 q1 => ref4_add2 u ah Bk W hwh hah q0 q1
  obtain ⟨T, hTT⟩ : ∃ T, addS u ah = T := ⟨_, rfl⟩
  rw [hTT] at HA1 hsum
  have hsum2 : I64 (addS T tk) := addS_bd T tk
  have HA2 := Lib.hid fun (Bk : Nat) (W : World) q0 q1 => ref4_add2 T tk Bk W hsum htk q0 q1
  obtain ⟨T2, hT2⟩ : ∃ T2, addS T tk = T2 := ⟨_, rfl⟩
  rw [hT2] at HA2 hsum2
  have HST := Lib.hid (fun (W : World) (q : FlatAt W (some ad) 2 n z) => law_stamp_any (some ad) n c x T z W q hT hsum)
  have HST2 := Lib.hid (fun (W : World) (q : FlatAt W (some ad) 2 n z) => law_stamp_any (some ad) n c x T2 z W q hT hsum2)
  obtain ⟨q, hq⟩ : ∃ q, asked i = q := ⟨_, rfl⟩
  rw [hq] at ha
  have HQ := Lib.hid hq
  have hlbp := h.ql
  have hwb := bits_and_le wy 15 (by omega)
  have hwb : 0 ≤ bits .and .i64 wy 15 ∧ bits .and .i64 wy 15 ≤ 15 := hwb
  have htb := bits_and_le tk 65535 (by omega)
  have htb : 0 ≤ bits .and .i64 tk 65535 ∧ bits .and .i64 tk 65535 ≤ 65535 := htb
  obtain ⟨m8, hm8⟩ : ∃ m8, bits .and .i64 tk 65535 = m8 := ⟨_, rfl⟩
  rw [hm8] at htb
  obtain ⟨way, hway⟩ : ∃ way, bits .and .i64 wy 15 = way := ⟨_, rfl⟩
  rw [hway] at hwb
  have HWA := Lib.hid hwb
  have HM8 := Lib.hid htb
  clear kk h hq hTT hT2 hu htk hah hwh hsum hsum2 hwb htb
  go_enter Tryz.func16, Tryz.ntmps16
  go_wp2_with fail
  generalize hW : (w.alloc (.cells #[.int .i64 kd, .int .i64 sv, .int .i64 tt, .int .i64 ah, .int .i64 tk, .int .i64 wy, .slice Ab nb cb] 41)) = V0 at *
  clear hW
  refine wp_region_held_drew (S := fun w' => w'.cell? ⟨bp, 13 + i, none⟩ = some (.int .i64 u) ∧ w'.cell? ⟨w.heap.size, 3, none⟩ = some (.int .i64 ah)) (by kernel_rfl) ?_ (fun hHeld => ?_)
  · exact ⟨by have := HP0.out.qw i hi; rw [HWU.out] at this; exact this, a3⟩
  have HP1 := Lib.hid (HP0.out.below (w' := V0.drew) ((Below.refl _ _).drew))
  have HB1 := Lib.hid HB0.out.drew
  have a3 : V0.drew.cell? ⟨w.heap.size, 3, none⟩ = some (.int .i64 ah) := a3
  have a4 : V0.drew.cell? ⟨w.heap.size, 4, none⟩ = some (.int .i64 tk) := a4
  have a5 : V0.drew.cell? ⟨w.heap.size, 5, none⟩ = some (.int .i64 wy) := a5
  have la : w.heap.size < V0.drew.heap.size := la
  clear HP0 HB0 a1
  generalize V0.drew = V1 at *
  refine tk9 0 ?_
  refine tk9 1 ?_
  refine tk9 2 ?_
  refine tk9 3 ?_
  refine tk9 4 ?_
  refine tk9 5 ?_
  refine tk9 6 ?_
  refine tk9 7 ?_
  refine wpAnyH_ready (rs := [8]) (by kernel_rfl) (by simp) ?_
  refine AllReadyH.cons rfl (fun K hK => ?_) (AllReadyH.nil)
  go_simp
  have k1 : Below V1.heap.size V1 (V1.alloc (.cells #[.int .i64 u, .int .i64 ah] 3)) := (Below.refl _ _).alloc (Nat.le_refl _) _
  have HP2 := Lib.hid (HP1.out.below k1)
  have HB2 := Lib.hid (HB1.out.trans (k1.mono HB1.out.size))
  have b3 := (k1.cell (p := ⟨w.heap.size, 3, none⟩) la).trans a3
  have b4 := (k1.cell (p := ⟨w.heap.size, 4, none⟩) la).trans a4
  have b5 := (k1.cell (p := ⟨w.heap.size, 5, none⟩) la).trans a5
  have lb := Nat.lt_of_lt_of_le la k1.size
  have z0 : (V1.alloc (.cells #[.int .i64 u, .int .i64 ah] 3)).cell? ⟨V1.heap.size, 0, none⟩ = some (.int .i64 u) := by simp
  have z1 : (V1.alloc (.cells #[.int .i64 u, .int .i64 ah] 3)).cell? ⟨V1.heap.size, 1, none⟩ = some (.int .i64 ah) := by simp
  clear k1 HP1 HB1 a3 a4 a5 la
  (try dsimp only)
  refine hK.out _ _ ?_ (fun hHeld => ?_)
  · exact ⟨by have := HP2.out.qw i hi; rw [HWU.out] at this; exact this, b3⟩
  clear hK K
  refine pt9 ?_
  generalize (V1.alloc (.cells #[.int .i64 u, .int .i64 ah] 3)) = V2 at *
  generalize V1.heap.size = G2 at *
  refine wpAnyH_ready (rs := [9]) (by kernel_rfl) (by simp) ?_
  refine AllReadyH.cons rfl (fun K hK => ?_) (AllReadyH.nil)
  go_simp
  (go_at_call 37; refine (HA1.out G2 V2 z0 z1).mono ?_; rintro e w' ⟨rfl, rfl⟩)
  (try dsimp only)
  refine hK.out _ _ ?_ (fun hHeld => ?_)
  · exact ⟨by have := HP2.out.qw i hi; rw [HWU.out] at this; exact this, b3⟩
  clear hK K
  refine pt9 ?_
  refine tk9 10 ?_
  refine wpAnyH_done (by kernel_rfl) ?_ _
  clear hHeld z0 z1
  have lbp2 := HP2.out.ql
  go_upto_region 3 with fail
  go_cut [7] (fun v wx => ∃ (g : Nat) (sA sD : Int), v = .pointer (some ⟨g, 0, none⟩) ∧ W8 wx g 0 4 1 0 0 q sA sD ∧ V2.heap.size ≤ g ∧ Below V2.heap.size V2 wx ∧ (0 ≤ sA ∧ sA < 18446744073709551616) ∧ (0 ≤ sD ∧ sD < 18446744073709551616))
  case first =>
    refine wp_region_held_drew (S := fun w' => w'.cell? ⟨bp, 5 + i, none⟩ = some (.int .u64 q) ∧ w'.cell? ⟨bp, 0, none⟩ = some (.slice (some ad) n c) ∧ w'.cell? ⟨bp, 1, none⟩ = some (.int .i64 x) ∧ w'.cell? ⟨w.heap.size, 4, none⟩ = some (.int .i64 tk)) (by kernel_rfl) ?_ (fun hHeld => ?_)
    · exact ⟨by have := HP2.out.qa i hi; rw [HQ.out] at this; exact this, HP2.out.q0, HP2.out.q1, b4⟩
    have HP3 := Lib.hid (HP2.out.below (w' := V2.drew) ((Below.refl _ _).drew))
    have HB3 : Hid (Below V2.heap.size V2 V2.drew) := Lib.hid ((Below.refl _ _).drew)
    have b4 : V2.drew.cell? ⟨w.heap.size, 4, none⟩ = some (.int .i64 tk) := b4
    have lb : w.heap.size < V2.drew.heap.size := lb
    have hab : w.heap.size < V2.heap.size := lb
    have hb4 : V2.cell? ⟨w.heap.size, 4, none⟩ = some (.int .i64 tk) := b4
    generalize hV3 : V2.drew = V3 at *
    clear hV3
    refine tk9 0 ?_
    refine tk9 1 ?_
    refine tk9 2 ?_
    refine tk9 3 ?_
    refine tk9 4 ?_
    refine tk9 5 ?_
    refine tk9 6 ?_
    refine tk9 7 ?_
    refine tk9 8 ?_
    refine tk9 9 ?_
    refine tk9 10 ?_
    refine tk9 12 ?_
    refine tk9 13 ?_
    refine tk9 14 ?_
    refine tk9 15 ?_
    refine tk9 16 ?_
    refine tk9 17 ?_
    refine tk9 18 ?_
    refine wpAnyH_ready (rs := [11, 19, 23]) (by kernel_rfl) (by simp) ?_
    refine AllReadyH.cons rfl (fun K hK => ?_) (AllReadyH.cons rfl (fun K hK => ?_) (AllReadyH.cons rfl (fun K hK => ?_) (AllReadyH.nil)))
    ·
      go_simp
      (go_at_call 18; refine (HST.out V3 HP3.out.tab).mono ?_; rintro e U11 ⟨⟨sA, rfl, sA0, sA1⟩, kx⟩)
      have HP11 := Lib.hid (HP3.out.below kx)
      have HB11 := Lib.hid (HB3.out.trans (kx.mono HB3.out.size))
      clear kx
      (try dsimp only)
      refine hK.out _ _ ?_ (fun hHeld => ?_)
      · exact ⟨by have := HP11.out.qa i hi; rw [HQ.out] at this; exact this, HP11.out.q0, HP11.out.q1, (HB11.out.cell (p := ⟨w.heap.size, 4, none⟩) hab).trans hb4⟩
      clear hK K
      refine pt9 ?_
      refine wpAnyH_ready (rs := [19, 23]) (by kernel_rfl) (by simp) ?_
      refine AllReadyH.cons rfl (fun K hK => ?_) (AllReadyH.cons rfl (fun K hK => ?_) (AllReadyH.nil))
      ·
        go_simp
        have kx : Below U11.heap.size U11 (U11.alloc (.cells #[.int .i64 T, .int .i64 tk] 3)) := (Below.refl _ _).alloc (Nat.le_refl _) _
        have HP12 := Lib.hid (HP11.out.below kx)
        have HB12 := Lib.hid (HB11.out.trans (kx.mono HB11.out.size))
        have zb0 : (U11.alloc (.cells #[.int .i64 T, .int .i64 tk] 3)).cell? ⟨U11.heap.size, 0, none⟩ = some (.int .i64 T) := by simp
        have zb1 : (U11.alloc (.cells #[.int .i64 T, .int .i64 tk] 3)).cell? ⟨U11.heap.size, 1, none⟩ = some (.int .i64 tk) := by simp
        have lgb : U11.heap.size < (U11.alloc (.cells #[.int .i64 T, .int .i64 tk] 3)).heap.size := by simp
        clear kx
        (try dsimp only)
        refine hK.out _ _ ?_ (fun hHeld => ?_)
        · exact ⟨by have := HP12.out.qa i hi; rw [HQ.out] at this; exact this, HP12.out.q0, HP12.out.q1, (HB12.out.cell (p := ⟨w.heap.size, 4, none⟩) hab).trans hb4⟩
        clear hK K
        refine pt9 ?_
        generalize U11.alloc (.cells #[.int .i64 T, .int .i64 tk] 3) = U12 at *
        generalize U11.heap.size = GB at *
        refine wpAnyH_ready (rs := [20, 23]) (by kernel_rfl) (by simp) ?_
        refine AllReadyH.cons rfl (fun K hK => ?_) (AllReadyH.cons rfl (fun K hK => ?_) (AllReadyH.nil))
        ·
          go_simp
          (go_at_call 37; refine (HA2.out GB U12 zb0 zb1).mono ?_; rintro e w' ⟨rfl, rfl⟩)
          (try dsimp only)
          refine hK.out _ _ ?_ (fun hHeld => ?_)
          · exact ⟨by have := HP12.out.qa i hi; rw [HQ.out] at this; exact this, HP12.out.q0, HP12.out.q1, (HB12.out.cell (p := ⟨w.heap.size, 4, none⟩) hab).trans hb4⟩
          clear hK K
          refine pt9 ?_
          refine wpAnyH_ready (rs := [21, 23]) (by kernel_rfl) (by simp) ?_
          refine AllReadyH.cons rfl (fun K hK => ?_) (AllReadyH.cons rfl (fun K hK => ?_) (AllReadyH.nil))
          ·
            go_simp
            (go_at_call 18; refine (HST2.out U12 HP12.out.tab).mono ?_; rintro e U14 ⟨⟨sD, rfl, sD0, sD1⟩, kx⟩)
            have HP14 := Lib.hid (HP12.out.below kx)
            have HB14 := Lib.hid (HB12.out.trans (kx.mono HB12.out.size))
            clear kx
            (try dsimp only)
            refine hK.out _ _ ?_ (fun hHeld => ?_)
            · exact ⟨by have := HP14.out.qa i hi; rw [HQ.out] at this; exact this, HP14.out.q0, HP14.out.q1, (HB14.out.cell (p := ⟨w.heap.size, 4, none⟩) hab).trans hb4⟩
            clear hK K
            refine pt9 ?_
            refine tk9 22 ?_
            refine wpAnyH_ready (rs := [23]) (by kernel_rfl) (by simp) ?_
            refine AllReadyH.cons rfl (fun K hK => ?_) (AllReadyH.nil)
            go_simp
            have kx : Below U14.heap.size U14 (U14.alloc (.cells #[.int .i64 0, .int .i64 0, .int .i64 0, .int .i64 0, .int .i64 0, .int .u64 0, .int .u64 0, .int .u64 0] 53)) := (Below.refl _ _).alloc (Nat.le_refl _) _
            have HP15 := Lib.hid (HP14.out.below kx)
            have HB15 := Lib.hid (HB14.out.trans (kx.mono HB14.out.size))
            have QE := Lib.hid (W8.mkR9 U14 0 0 0 0 0 0 0 0)
            have hgE : V2.heap.size ≤ U14.heap.size := HB14.out.size
            clear kx
            (try dsimp only)
            refine hK.out _ _ ?_ (fun hHeld => ?_)
            · exact ⟨by have := HP15.out.qa i hi; rw [HQ.out] at this; exact this, HP15.out.q0, HP15.out.q1, (HB15.out.cell (p := ⟨w.heap.size, 4, none⟩) hab).trans hb4⟩
            clear hK K
            refine pt9 ?_
            generalize U14.alloc (.cells #[.int .i64 0, .int .i64 0, .int .i64 0, .int .i64 0, .int .i64 0, .int .u64 0, .int .u64 0, .int .u64 0] 53) = U15 at *
            generalize U14.heap.size = g5 at *
            obtain ⟨y0, y1, y2, y3, y4, y5, y6, y7, yl⟩ := QE.out.x
            have f0 := QE.out.f 0
            have f1 := QE.out.f 1
            have f2 := QE.out.f 2
            have f3 := QE.out.f 3
            have f4 := QE.out.f 4
            have f5 := QE.out.f 5
            have f6 := QE.out.f 6
            have f7 := QE.out.f 7
            refine wpAnyH_ready (rs := [24]) (by kernel_rfl) (by simp) ?_
            refine AllReadyH.cons rfl (fun K hK => ?_) (AllReadyH.nil)
            go_simp
            have X9 : W8 (st8 U15 g5 0 4 1 0 0 q sA sD) g5 0 4 1 0 0 q sA sD := ⟨st8_cells QE.out.x, fun j => by have := QE.out.f j; simpa [st8] using this⟩
            have B9 : Below V2.heap.size V2 (st8 U15 g5 0 4 1 0 0 q sA sD) := by unfold st8; exact (((((((HB15.out.setCell (p := ⟨g5, 0, none⟩) hgE _).setCell (p := ⟨g5, 1, none⟩) hgE _).setCell (p := ⟨g5, 2, none⟩) hgE _).setCell (p := ⟨g5, 3, none⟩) hgE _).setCell (p := ⟨g5, 4, none⟩) hgE _).setCell (p := ⟨g5, 5, none⟩) hgE _).setCell (p := ⟨g5, 6, none⟩) hgE _).setCell (p := ⟨g5, 7, none⟩) hgE _
            have P9 := HP2.out.below B9
            (try dsimp only)
            refine hK.out _ _ ?_ (fun hHeld => ?_)
            · exact ⟨by have := P9.qa i hi; rw [HQ.out] at this; exact this, P9.q0, P9.q1, (B9.cell (p := ⟨w.heap.size, 4, none⟩) hab).trans hb4⟩
            clear hK K
            refine pt9 ?_
            refine wpAnyH_done (by kernel_rfl) ?_ _
            have HX9 := Lib.hid X9
            have HB9 := Lib.hid B9
            clear X9 B9 P9 QE y0 y1 y2 y3 y4 y5 y6 y7 f0 f1 f2 f3 f4 f5 f6 f7
            go_wp2_with fail
            go_meet
            exact ⟨g5, sA, sD, rfl, HX9.out, hgE, HB9.out, ⟨sA0, sA1⟩, ⟨sD0, sD1⟩⟩
          ·
            go_simp
            have kx : Below U12.heap.size U12 (U12.alloc (.cells #[.int .i64 0, .int .i64 0, .int .i64 0, .int .i64 0, .int .i64 0, .int .u64 0, .int .u64 0, .int .u64 0] 53)) := (Below.refl _ _).alloc (Nat.le_refl _) _
            have HP16 := Lib.hid (HP12.out.below kx)
            have HB16 := Lib.hid (HB12.out.trans (kx.mono HB12.out.size))
            have QE := Lib.hid (W8.mkR9 U12 0 0 0 0 0 0 0 0)
            have hgE : V2.heap.size ≤ U12.heap.size := HB12.out.size
            clear kx
            (try dsimp only)
            refine hK.out _ _ ?_ (fun hHeld => ?_)
            · exact ⟨by have := HP16.out.qa i hi; rw [HQ.out] at this; exact this, HP16.out.q0, HP16.out.q1, (HB16.out.cell (p := ⟨w.heap.size, 4, none⟩) hab).trans hb4⟩
            clear hK K
            refine pt9 ?_
            generalize U12.alloc (.cells #[.int .i64 0, .int .i64 0, .int .i64 0, .int .i64 0, .int .i64 0, .int .u64 0, .int .u64 0, .int .u64 0] 53) = U16 at *
            generalize U12.heap.size = g5 at *
            refine wpAnyH_ready (rs := [21]) (by kernel_rfl) (by simp) ?_
            refine AllReadyH.cons rfl (fun K hK => ?_) (AllReadyH.nil)
            go_simp
            (go_at_call 18; refine (HST2.out U16 HP16.out.tab).mono ?_; rintro e U17 ⟨⟨sD, rfl, sD0, sD1⟩, kx⟩)
            have HP17 := Lib.hid (HP16.out.below kx)
            have HB17 := Lib.hid (HB16.out.trans (kx.mono HB16.out.size))
            replace QE := Lib.hid (QE.out.below kx QE.out.x.lt)
            clear kx
            (try dsimp only)
            refine hK.out _ _ ?_ (fun hHeld => ?_)
            · exact ⟨by have := HP17.out.qa i hi; rw [HQ.out] at this; exact this, HP17.out.q0, HP17.out.q1, (HB17.out.cell (p := ⟨w.heap.size, 4, none⟩) hab).trans hb4⟩
            clear hK K
            refine pt9 ?_
            refine tk9 22 ?_
            obtain ⟨y0, y1, y2, y3, y4, y5, y6, y7, yl⟩ := QE.out.x
            have f0 := QE.out.f 0
            have f1 := QE.out.f 1
            have f2 := QE.out.f 2
            have f3 := QE.out.f 3
            have f4 := QE.out.f 4
            have f5 := QE.out.f 5
            have f6 := QE.out.f 6
            have f7 := QE.out.f 7
            refine wpAnyH_ready (rs := [24]) (by kernel_rfl) (by simp) ?_
            refine AllReadyH.cons rfl (fun K hK => ?_) (AllReadyH.nil)
            go_simp
            have X9 : W8 (st8 U17 g5 0 4 1 0 0 q sA sD) g5 0 4 1 0 0 q sA sD := ⟨st8_cells QE.out.x, fun j => by have := QE.out.f j; simpa [st8] using this⟩
            have B9 : Below V2.heap.size V2 (st8 U17 g5 0 4 1 0 0 q sA sD) := by unfold st8; exact (((((((HB17.out.setCell (p := ⟨g5, 0, none⟩) hgE _).setCell (p := ⟨g5, 1, none⟩) hgE _).setCell (p := ⟨g5, 2, none⟩) hgE _).setCell (p := ⟨g5, 3, none⟩) hgE _).setCell (p := ⟨g5, 4, none⟩) hgE _).setCell (p := ⟨g5, 5, none⟩) hgE _).setCell (p := ⟨g5, 6, none⟩) hgE _).setCell (p := ⟨g5, 7, none⟩) hgE _
            have P9 := HP2.out.below B9
            (try dsimp only)
            refine hK.out _ _ ?_ (fun hHeld => ?_)
            · exact ⟨by have := P9.qa i hi; rw [HQ.out] at this; exact this, P9.q0, P9.q1, (B9.cell (p := ⟨w.heap.size, 4, none⟩) hab).trans hb4⟩
            clear hK K
            refine pt9 ?_
            refine wpAnyH_done (by kernel_rfl) ?_ _
            have HX9 := Lib.hid X9
            have HB9 := Lib.hid B9
            clear X9 B9 P9 QE y0 y1 y2 y3 y4 y5 y6 y7 f0 f1 f2 f3 f4 f5 f6 f7
            go_wp2_with fail
            go_meet
            exact ⟨g5, sA, sD, rfl, HX9.out, hgE, HB9.out, ⟨sA0, sA1⟩, ⟨sD0, sD1⟩⟩
        ·
          go_simp
          have kx : Below U12.heap.size U12 (U12.alloc (.cells #[.int .i64 0, .int .i64 0, .int .i64 0, .int .i64 0, .int .i64 0, .int .u64 0, .int .u64 0, .int .u64 0] 53)) := (Below.refl _ _).alloc (Nat.le_refl _) _
          have HP18 := Lib.hid (HP12.out.below kx)
          have HB18 := Lib.hid (HB12.out.trans (kx.mono HB12.out.size))
          replace zb0 := (kx.cell (p := ⟨GB, 0, none⟩) lgb).trans zb0
          replace zb1 := (kx.cell (p := ⟨GB, 1, none⟩) lgb).trans zb1
          replace lgb := Nat.lt_of_lt_of_le lgb kx.size
          have QE := Lib.hid (W8.mkR9 U12 0 0 0 0 0 0 0 0)
          have hgE : V2.heap.size ≤ U12.heap.size := HB12.out.size
          clear kx
          (try dsimp only)
          refine hK.out _ _ ?_ (fun hHeld => ?_)
          · exact ⟨by have := HP18.out.qa i hi; rw [HQ.out] at this; exact this, HP18.out.q0, HP18.out.q1, (HB18.out.cell (p := ⟨w.heap.size, 4, none⟩) hab).trans hb4⟩
          clear hK K
          refine pt9 ?_
          generalize U12.alloc (.cells #[.int .i64 0, .int .i64 0, .int .i64 0, .int .i64 0, .int .i64 0, .int .u64 0, .int .u64 0, .int .u64 0] 53) = U18 at *
          generalize U12.heap.size = g5 at *
          refine wpAnyH_ready (rs := [20]) (by kernel_rfl) (by simp) ?_
          refine AllReadyH.cons rfl (fun K hK => ?_) (AllReadyH.nil)
          go_simp
          (go_at_call 37; refine (HA2.out GB U18 zb0 zb1).mono ?_; rintro e w' ⟨rfl, rfl⟩)
          (try dsimp only)
          refine hK.out _ _ ?_ (fun hHeld => ?_)
          · exact ⟨by have := HP18.out.qa i hi; rw [HQ.out] at this; exact this, HP18.out.q0, HP18.out.q1, (HB18.out.cell (p := ⟨w.heap.size, 4, none⟩) hab).trans hb4⟩
          clear hK K
          refine pt9 ?_
          refine wpAnyH_ready (rs := [21]) (by kernel_rfl) (by simp) ?_
          refine AllReadyH.cons rfl (fun K hK => ?_) (AllReadyH.nil)
          go_simp
          (go_at_call 18; refine (HST2.out U18 HP18.out.tab).mono ?_; rintro e U20 ⟨⟨sD, rfl, sD0, sD1⟩, kx⟩)
          have HP20 := Lib.hid (HP18.out.below kx)
          have HB20 := Lib.hid (HB18.out.trans (kx.mono HB18.out.size))
          replace QE := Lib.hid (QE.out.below kx QE.out.x.lt)
          clear kx
          (try dsimp only)
          refine hK.out _ _ ?_ (fun hHeld => ?_)
          · exact ⟨by have := HP20.out.qa i hi; rw [HQ.out] at this; exact this, HP20.out.q0, HP20.out.q1, (HB20.out.cell (p := ⟨w.heap.size, 4, none⟩) hab).trans hb4⟩
          clear hK K
          refine pt9 ?_
          refine tk9 22 ?_
          obtain ⟨y0, y1, y2, y3, y4, y5, y6, y7, yl⟩ := QE.out.x
          have f0 := QE.out.f 0
          have f1 := QE.out.f 1
          have f2 := QE.out.f 2
          have f3 := QE.out.f 3
          have f4 := QE.out.f 4
          have f5 := QE.out.f 5
          have f6 := QE.out.f 6
          have f7 := QE.out.f 7
          refine wpAnyH_ready (rs := [24]) (by kernel_rfl) (by simp) ?_
          refine AllReadyH.cons rfl (fun K hK => ?_) (AllReadyH.nil)
          go_simp
          have X9 : W8 (st8 U20 g5 0 4 1 0 0 q sA sD) g5 0 4 1 0 0 q sA sD := ⟨st8_cells QE.out.x, fun j => by have := QE.out.f j; simpa [st8] using this⟩
          have B9 : Below V2.heap.size V2 (st8 U20 g5 0 4 1 0 0 q sA sD) := by unfold st8; exact (((((((HB20.out.setCell (p := ⟨g5, 0, none⟩) hgE _).setCell (p := ⟨g5, 1, none⟩) hgE _).setCell (p := ⟨g5, 2, none⟩) hgE _).setCell (p := ⟨g5, 3, none⟩) hgE _).setCell (p := ⟨g5, 4, none⟩) hgE _).setCell (p := ⟨g5, 5, none⟩) hgE _).setCell (p := ⟨g5, 6, none⟩) hgE _).setCell (p := ⟨g5, 7, none⟩) hgE _
          have P9 := HP2.out.below B9
          (try dsimp only)
          refine hK.out _ _ ?_ (fun hHeld => ?_)
          · exact ⟨by have := P9.qa i hi; rw [HQ.out] at this; exact this, P9.q0, P9.q1, (B9.cell (p := ⟨w.heap.size, 4, none⟩) hab).trans hb4⟩
          clear hK K
          refine pt9 ?_
          refine wpAnyH_done (by kernel_rfl) ?_ _
          have HX9 := Lib.hid X9
          have HB9 := Lib.hid B9
          clear X9 B9 P9 QE y0 y1 y2 y3 y4 y5 y6 y7 f0 f1 f2 f3 f4 f5 f6 f7
          go_wp2_with fail
          go_meet
          exact ⟨g5, sA, sD, rfl, HX9.out, hgE, HB9.out, ⟨sA0, sA1⟩, ⟨sD0, sD1⟩⟩
      ·
        go_simp
        have kx : Below U11.heap.size U11 (U11.alloc (.cells #[.int .i64 0, .int .i64 0, .int .i64 0, .int .i64 0, .int .i64 0, .int .u64 0, .int .u64 0, .int .u64 0] 53)) := (Below.refl _ _).alloc (Nat.le_refl _) _
        have HP21 := Lib.hid (HP11.out.below kx)
        have HB21 := Lib.hid (HB11.out.trans (kx.mono HB11.out.size))
        have QE := Lib.hid (W8.mkR9 U11 0 0 0 0 0 0 0 0)
        have hgE : V2.heap.size ≤ U11.heap.size := HB11.out.size
        clear kx
        (try dsimp only)
        refine hK.out _ _ ?_ (fun hHeld => ?_)
        · exact ⟨by have := HP21.out.qa i hi; rw [HQ.out] at this; exact this, HP21.out.q0, HP21.out.q1, (HB21.out.cell (p := ⟨w.heap.size, 4, none⟩) hab).trans hb4⟩
        clear hK K
        refine pt9 ?_
        generalize U11.alloc (.cells #[.int .i64 0, .int .i64 0, .int .i64 0, .int .i64 0, .int .i64 0, .int .u64 0, .int .u64 0, .int .u64 0] 53) = U21 at *
        generalize U11.heap.size = g5 at *
        refine wpAnyH_ready (rs := [19]) (by kernel_rfl) (by simp) ?_
        refine AllReadyH.cons rfl (fun K hK => ?_) (AllReadyH.nil)
        go_simp
        have kx : Below U21.heap.size U21 (U21.alloc (.cells #[.int .i64 T, .int .i64 tk] 3)) := (Below.refl _ _).alloc (Nat.le_refl _) _
        have HP22 := Lib.hid (HP21.out.below kx)
        have HB22 := Lib.hid (HB21.out.trans (kx.mono HB21.out.size))
        replace QE := Lib.hid (QE.out.below kx QE.out.x.lt)
        have zb0 : (U21.alloc (.cells #[.int .i64 T, .int .i64 tk] 3)).cell? ⟨U21.heap.size, 0, none⟩ = some (.int .i64 T) := by simp
        have zb1 : (U21.alloc (.cells #[.int .i64 T, .int .i64 tk] 3)).cell? ⟨U21.heap.size, 1, none⟩ = some (.int .i64 tk) := by simp
        have lgb : U21.heap.size < (U21.alloc (.cells #[.int .i64 T, .int .i64 tk] 3)).heap.size := by simp
        clear kx
        (try dsimp only)
        refine hK.out _ _ ?_ (fun hHeld => ?_)
        · exact ⟨by have := HP22.out.qa i hi; rw [HQ.out] at this; exact this, HP22.out.q0, HP22.out.q1, (HB22.out.cell (p := ⟨w.heap.size, 4, none⟩) hab).trans hb4⟩
        clear hK K
        refine pt9 ?_
        generalize U21.alloc (.cells #[.int .i64 T, .int .i64 tk] 3) = U22 at *
        generalize U21.heap.size = GB at *
        refine wpAnyH_ready (rs := [20]) (by kernel_rfl) (by simp) ?_
        refine AllReadyH.cons rfl (fun K hK => ?_) (AllReadyH.nil)
        go_simp
        (go_at_call 37; refine (HA2.out GB U22 zb0 zb1).mono ?_; rintro e w' ⟨rfl, rfl⟩)
        (try dsimp only)
        refine hK.out _ _ ?_ (fun hHeld => ?_)
        · exact ⟨by have := HP22.out.qa i hi; rw [HQ.out] at this; exact this, HP22.out.q0, HP22.out.q1, (HB22.out.cell (p := ⟨w.heap.size, 4, none⟩) hab).trans hb4⟩
        clear hK K
        refine pt9 ?_
        refine wpAnyH_ready (rs := [21]) (by kernel_rfl) (by simp) ?_
        refine AllReadyH.cons rfl (fun K hK => ?_) (AllReadyH.nil)
        go_simp
        (go_at_call 18; refine (HST2.out U22 HP22.out.tab).mono ?_; rintro e U24 ⟨⟨sD, rfl, sD0, sD1⟩, kx⟩)
        have HP24 := Lib.hid (HP22.out.below kx)
        have HB24 := Lib.hid (HB22.out.trans (kx.mono HB22.out.size))
        replace QE := Lib.hid (QE.out.below kx QE.out.x.lt)
        clear kx
        (try dsimp only)
        refine hK.out _ _ ?_ (fun hHeld => ?_)
        · exact ⟨by have := HP24.out.qa i hi; rw [HQ.out] at this; exact this, HP24.out.q0, HP24.out.q1, (HB24.out.cell (p := ⟨w.heap.size, 4, none⟩) hab).trans hb4⟩
        clear hK K
        refine pt9 ?_
        refine tk9 22 ?_
        obtain ⟨y0, y1, y2, y3, y4, y5, y6, y7, yl⟩ := QE.out.x
        have f0 := QE.out.f 0
        have f1 := QE.out.f 1
        have f2 := QE.out.f 2
        have f3 := QE.out.f 3
        have f4 := QE.out.f 4
        have f5 := QE.out.f 5
        have f6 := QE.out.f 6
        have f7 := QE.out.f 7
        refine wpAnyH_ready (rs := [24]) (by kernel_rfl) (by simp) ?_
        refine AllReadyH.cons rfl (fun K hK => ?_) (AllReadyH.nil)
        go_simp
        have X9 : W8 (st8 U24 g5 0 4 1 0 0 q sA sD) g5 0 4 1 0 0 q sA sD := ⟨st8_cells QE.out.x, fun j => by have := QE.out.f j; simpa [st8] using this⟩
        have B9 : Below V2.heap.size V2 (st8 U24 g5 0 4 1 0 0 q sA sD) := by unfold st8; exact (((((((HB24.out.setCell (p := ⟨g5, 0, none⟩) hgE _).setCell (p := ⟨g5, 1, none⟩) hgE _).setCell (p := ⟨g5, 2, none⟩) hgE _).setCell (p := ⟨g5, 3, none⟩) hgE _).setCell (p := ⟨g5, 4, none⟩) hgE _).setCell (p := ⟨g5, 5, none⟩) hgE _).setCell (p := ⟨g5, 6, none⟩) hgE _).setCell (p := ⟨g5, 7, none⟩) hgE _
        have P9 := HP2.out.below B9
        (try dsimp only)
        refine hK.out _ _ ?_ (fun hHeld => ?_)
        · exact ⟨by have := P9.qa i hi; rw [HQ.out] at this; exact this, P9.q0, P9.q1, (B9.cell (p := ⟨w.heap.size, 4, none⟩) hab).trans hb4⟩
        clear hK K
        refine pt9 ?_
        refine wpAnyH_done (by kernel_rfl) ?_ _
        have HX9 := Lib.hid X9
        have HB9 := Lib.hid B9
        clear X9 B9 P9 QE y0 y1 y2 y3 y4 y5 y6 y7 f0 f1 f2 f3 f4 f5 f6 f7
        go_wp2_with fail
        go_meet
        exact ⟨g5, sA, sD, rfl, HX9.out, hgE, HB9.out, ⟨sA0, sA1⟩, ⟨sD0, sD1⟩⟩
    ·
      go_simp
      have kx : Below V3.heap.size V3 (V3.alloc (.cells #[.int .i64 T, .int .i64 tk] 3)) := (Below.refl _ _).alloc (Nat.le_refl _) _
      have HP25 := Lib.hid (HP3.out.below kx)
      have HB25 := Lib.hid (HB3.out.trans (kx.mono HB3.out.size))
      have zb0 : (V3.alloc (.cells #[.int .i64 T, .int .i64 tk] 3)).cell? ⟨V3.heap.size, 0, none⟩ = some (.int .i64 T) := by simp
      have zb1 : (V3.alloc (.cells #[.int .i64 T, .int .i64 tk] 3)).cell? ⟨V3.heap.size, 1, none⟩ = some (.int .i64 tk) := by simp
      have lgb : V3.heap.size < (V3.alloc (.cells #[.int .i64 T, .int .i64 tk] 3)).heap.size := by simp
      clear kx
      (try dsimp only)
      refine hK.out _ _ ?_ (fun hHeld => ?_)
      · exact ⟨by have := HP25.out.qa i hi; rw [HQ.out] at this; exact this, HP25.out.q0, HP25.out.q1, (HB25.out.cell (p := ⟨w.heap.size, 4, none⟩) hab).trans hb4⟩
      clear hK K
      refine pt9 ?_
      generalize V3.alloc (.cells #[.int .i64 T, .int .i64 tk] 3) = U25 at *
      generalize V3.heap.size = GB at *
      refine wpAnyH_ready (rs := [11, 23]) (by kernel_rfl) (by simp) ?_
      refine AllReadyH.cons rfl (fun K hK => ?_) (AllReadyH.cons rfl (fun K hK => ?_) (AllReadyH.nil))
      ·
        go_simp
        (go_at_call 18; refine (HST.out U25 HP25.out.tab).mono ?_; rintro e U26 ⟨⟨sA, rfl, sA0, sA1⟩, kx⟩)
        have HP26 := Lib.hid (HP25.out.below kx)
        have HB26 := Lib.hid (HB25.out.trans (kx.mono HB25.out.size))
        replace zb0 := (kx.cell (p := ⟨GB, 0, none⟩) lgb).trans zb0
        replace zb1 := (kx.cell (p := ⟨GB, 1, none⟩) lgb).trans zb1
        replace lgb := Nat.lt_of_lt_of_le lgb kx.size
        clear kx
        (try dsimp only)
        refine hK.out _ _ ?_ (fun hHeld => ?_)
        · exact ⟨by have := HP26.out.qa i hi; rw [HQ.out] at this; exact this, HP26.out.q0, HP26.out.q1, (HB26.out.cell (p := ⟨w.heap.size, 4, none⟩) hab).trans hb4⟩
        clear hK K
        refine pt9 ?_
        refine wpAnyH_ready (rs := [20, 23]) (by kernel_rfl) (by simp) ?_
        refine AllReadyH.cons rfl (fun K hK => ?_) (AllReadyH.cons rfl (fun K hK => ?_) (AllReadyH.nil))
        ·
          go_simp
          (go_at_call 37; refine (HA2.out GB U26 zb0 zb1).mono ?_; rintro e w' ⟨rfl, rfl⟩)
          (try dsimp only)
          refine hK.out _ _ ?_ (fun hHeld => ?_)
          · exact ⟨by have := HP26.out.qa i hi; rw [HQ.out] at this; exact this, HP26.out.q0, HP26.out.q1, (HB26.out.cell (p := ⟨w.heap.size, 4, none⟩) hab).trans hb4⟩
          clear hK K
          refine pt9 ?_
          refine wpAnyH_ready (rs := [21, 23]) (by kernel_rfl) (by simp) ?_
          refine AllReadyH.cons rfl (fun K hK => ?_) (AllReadyH.cons rfl (fun K hK => ?_) (AllReadyH.nil))
          ·
            go_simp
            (go_at_call 18; refine (HST2.out U26 HP26.out.tab).mono ?_; rintro e U28 ⟨⟨sD, rfl, sD0, sD1⟩, kx⟩)
            have HP28 := Lib.hid (HP26.out.below kx)
            have HB28 := Lib.hid (HB26.out.trans (kx.mono HB26.out.size))
            clear kx
            (try dsimp only)
            refine hK.out _ _ ?_ (fun hHeld => ?_)
            · exact ⟨by have := HP28.out.qa i hi; rw [HQ.out] at this; exact this, HP28.out.q0, HP28.out.q1, (HB28.out.cell (p := ⟨w.heap.size, 4, none⟩) hab).trans hb4⟩
            clear hK K
            refine pt9 ?_
            refine tk9 22 ?_
            refine wpAnyH_ready (rs := [23]) (by kernel_rfl) (by simp) ?_
            refine AllReadyH.cons rfl (fun K hK => ?_) (AllReadyH.nil)
            go_simp
            have kx : Below U28.heap.size U28 (U28.alloc (.cells #[.int .i64 0, .int .i64 0, .int .i64 0, .int .i64 0, .int .i64 0, .int .u64 0, .int .u64 0, .int .u64 0] 53)) := (Below.refl _ _).alloc (Nat.le_refl _) _
            have HP29 := Lib.hid (HP28.out.below kx)
            have HB29 := Lib.hid (HB28.out.trans (kx.mono HB28.out.size))
            have QE := Lib.hid (W8.mkR9 U28 0 0 0 0 0 0 0 0)
            have hgE : V2.heap.size ≤ U28.heap.size := HB28.out.size
            clear kx
            (try dsimp only)
            refine hK.out _ _ ?_ (fun hHeld => ?_)
            · exact ⟨by have := HP29.out.qa i hi; rw [HQ.out] at this; exact this, HP29.out.q0, HP29.out.q1, (HB29.out.cell (p := ⟨w.heap.size, 4, none⟩) hab).trans hb4⟩
            clear hK K
            refine pt9 ?_
            generalize U28.alloc (.cells #[.int .i64 0, .int .i64 0, .int .i64 0, .int .i64 0, .int .i64 0, .int .u64 0, .int .u64 0, .int .u64 0] 53) = U29 at *
            generalize U28.heap.size = g5 at *
            obtain ⟨y0, y1, y2, y3, y4, y5, y6, y7, yl⟩ := QE.out.x
            have f0 := QE.out.f 0
            have f1 := QE.out.f 1
            have f2 := QE.out.f 2
            have f3 := QE.out.f 3
            have f4 := QE.out.f 4
            have f5 := QE.out.f 5
            have f6 := QE.out.f 6
            have f7 := QE.out.f 7
            refine wpAnyH_ready (rs := [24]) (by kernel_rfl) (by simp) ?_
            refine AllReadyH.cons rfl (fun K hK => ?_) (AllReadyH.nil)
            go_simp
            have X9 : W8 (st8 U29 g5 0 4 1 0 0 q sA sD) g5 0 4 1 0 0 q sA sD := ⟨st8_cells QE.out.x, fun j => by have := QE.out.f j; simpa [st8] using this⟩
            have B9 : Below V2.heap.size V2 (st8 U29 g5 0 4 1 0 0 q sA sD) := by unfold st8; exact (((((((HB29.out.setCell (p := ⟨g5, 0, none⟩) hgE _).setCell (p := ⟨g5, 1, none⟩) hgE _).setCell (p := ⟨g5, 2, none⟩) hgE _).setCell (p := ⟨g5, 3, none⟩) hgE _).setCell (p := ⟨g5, 4, none⟩) hgE _).setCell (p := ⟨g5, 5, none⟩) hgE _).setCell (p := ⟨g5, 6, none⟩) hgE _).setCell (p := ⟨g5, 7, none⟩) hgE _
            have P9 := HP2.out.below B9
            (try dsimp only)
            refine hK.out _ _ ?_ (fun hHeld => ?_)
            · exact ⟨by have := P9.qa i hi; rw [HQ.out] at this; exact this, P9.q0, P9.q1, (B9.cell (p := ⟨w.heap.size, 4, none⟩) hab).trans hb4⟩
            clear hK K
            refine pt9 ?_
            refine wpAnyH_done (by kernel_rfl) ?_ _
            have HX9 := Lib.hid X9
            have HB9 := Lib.hid B9
            clear X9 B9 P9 QE y0 y1 y2 y3 y4 y5 y6 y7 f0 f1 f2 f3 f4 f5 f6 f7
            go_wp2_with fail
            go_meet
            exact ⟨g5, sA, sD, rfl, HX9.out, hgE, HB9.out, ⟨sA0, sA1⟩, ⟨sD0, sD1⟩⟩
          ·
            go_simp
            have kx : Below U26.heap.size U26 (U26.alloc (.cells #[.int .i64 0, .int .i64 0, .int .i64 0, .int .i64 0, .int .i64 0, .int .u64 0, .int .u64 0, .int .u64 0] 53)) := (Below.refl _ _).alloc (Nat.le_refl _) _
            have HP30 := Lib.hid (HP26.out.below kx)
            have HB30 := Lib.hid (HB26.out.trans (kx.mono HB26.out.size))
            have QE := Lib.hid (W8.mkR9 U26 0 0 0 0 0 0 0 0)
            have hgE : V2.heap.size ≤ U26.heap.size := HB26.out.size
            clear kx
            (try dsimp only)
            refine hK.out _ _ ?_ (fun hHeld => ?_)
            · exact ⟨by have := HP30.out.qa i hi; rw [HQ.out] at this; exact this, HP30.out.q0, HP30.out.q1, (HB30.out.cell (p := ⟨w.heap.size, 4, none⟩) hab).trans hb4⟩
            clear hK K
            refine pt9 ?_
            generalize U26.alloc (.cells #[.int .i64 0, .int .i64 0, .int .i64 0, .int .i64 0, .int .i64 0, .int .u64 0, .int .u64 0, .int .u64 0] 53) = U30 at *
            generalize U26.heap.size = g5 at *
            refine wpAnyH_ready (rs := [21]) (by kernel_rfl) (by simp) ?_
            refine AllReadyH.cons rfl (fun K hK => ?_) (AllReadyH.nil)
            go_simp
            (go_at_call 18; refine (HST2.out U30 HP30.out.tab).mono ?_; rintro e U31 ⟨⟨sD, rfl, sD0, sD1⟩, kx⟩)
            have HP31 := Lib.hid (HP30.out.below kx)
            have HB31 := Lib.hid (HB30.out.trans (kx.mono HB30.out.size))
            replace QE := Lib.hid (QE.out.below kx QE.out.x.lt)
            clear kx
            (try dsimp only)
            refine hK.out _ _ ?_ (fun hHeld => ?_)
            · exact ⟨by have := HP31.out.qa i hi; rw [HQ.out] at this; exact this, HP31.out.q0, HP31.out.q1, (HB31.out.cell (p := ⟨w.heap.size, 4, none⟩) hab).trans hb4⟩
            clear hK K
            refine pt9 ?_
            refine tk9 22 ?_
            obtain ⟨y0, y1, y2, y3, y4, y5, y6, y7, yl⟩ := QE.out.x
            have f0 := QE.out.f 0
            have f1 := QE.out.f 1
            have f2 := QE.out.f 2
            have f3 := QE.out.f 3
            have f4 := QE.out.f 4
            have f5 := QE.out.f 5
            have f6 := QE.out.f 6
            have f7 := QE.out.f 7
            refine wpAnyH_ready (rs := [24]) (by kernel_rfl) (by simp) ?_
            refine AllReadyH.cons rfl (fun K hK => ?_) (AllReadyH.nil)
            go_simp
            have X9 : W8 (st8 U31 g5 0 4 1 0 0 q sA sD) g5 0 4 1 0 0 q sA sD := ⟨st8_cells QE.out.x, fun j => by have := QE.out.f j; simpa [st8] using this⟩
            have B9 : Below V2.heap.size V2 (st8 U31 g5 0 4 1 0 0 q sA sD) := by unfold st8; exact (((((((HB31.out.setCell (p := ⟨g5, 0, none⟩) hgE _).setCell (p := ⟨g5, 1, none⟩) hgE _).setCell (p := ⟨g5, 2, none⟩) hgE _).setCell (p := ⟨g5, 3, none⟩) hgE _).setCell (p := ⟨g5, 4, none⟩) hgE _).setCell (p := ⟨g5, 5, none⟩) hgE _).setCell (p := ⟨g5, 6, none⟩) hgE _).setCell (p := ⟨g5, 7, none⟩) hgE _
            have P9 := HP2.out.below B9
            (try dsimp only)
            refine hK.out _ _ ?_ (fun hHeld => ?_)
            · exact ⟨by have := P9.qa i hi; rw [HQ.out] at this; exact this, P9.q0, P9.q1, (B9.cell (p := ⟨w.heap.size, 4, none⟩) hab).trans hb4⟩
            clear hK K
            refine pt9 ?_
            refine wpAnyH_done (by kernel_rfl) ?_ _
            have HX9 := Lib.hid X9
            have HB9 := Lib.hid B9
            clear X9 B9 P9 QE y0 y1 y2 y3 y4 y5 y6 y7 f0 f1 f2 f3 f4 f5 f6 f7
            go_wp2_with fail
            go_meet
            exact ⟨g5, sA, sD, rfl, HX9.out, hgE, HB9.out, ⟨sA0, sA1⟩, ⟨sD0, sD1⟩⟩
        ·
          go_simp
          have kx : Below U26.heap.size U26 (U26.alloc (.cells #[.int .i64 0, .int .i64 0, .int .i64 0, .int .i64 0, .int .i64 0, .int .u64 0, .int .u64 0, .int .u64 0] 53)) := (Below.refl _ _).alloc (Nat.le_refl _) _
          have HP32 := Lib.hid (HP26.out.below kx)
          have HB32 := Lib.hid (HB26.out.trans (kx.mono HB26.out.size))
          replace zb0 := (kx.cell (p := ⟨GB, 0, none⟩) lgb).trans zb0
          replace zb1 := (kx.cell (p := ⟨GB, 1, none⟩) lgb).trans zb1
          replace lgb := Nat.lt_of_lt_of_le lgb kx.size
          have QE := Lib.hid (W8.mkR9 U26 0 0 0 0 0 0 0 0)
          have hgE : V2.heap.size ≤ U26.heap.size := HB26.out.size
          clear kx
          (try dsimp only)
          refine hK.out _ _ ?_ (fun hHeld => ?_)
          · exact ⟨by have := HP32.out.qa i hi; rw [HQ.out] at this; exact this, HP32.out.q0, HP32.out.q1, (HB32.out.cell (p := ⟨w.heap.size, 4, none⟩) hab).trans hb4⟩
          clear hK K
          refine pt9 ?_
          generalize U26.alloc (.cells #[.int .i64 0, .int .i64 0, .int .i64 0, .int .i64 0, .int .i64 0, .int .u64 0, .int .u64 0, .int .u64 0] 53) = U32 at *
          generalize U26.heap.size = g5 at *
          refine wpAnyH_ready (rs := [20]) (by kernel_rfl) (by simp) ?_
          refine AllReadyH.cons rfl (fun K hK => ?_) (AllReadyH.nil)
          go_simp
          (go_at_call 37; refine (HA2.out GB U32 zb0 zb1).mono ?_; rintro e w' ⟨rfl, rfl⟩)
          (try dsimp only)
          refine hK.out _ _ ?_ (fun hHeld => ?_)
          · exact ⟨by have := HP32.out.qa i hi; rw [HQ.out] at this; exact this, HP32.out.q0, HP32.out.q1, (HB32.out.cell (p := ⟨w.heap.size, 4, none⟩) hab).trans hb4⟩
          clear hK K
          refine pt9 ?_
          refine wpAnyH_ready (rs := [21]) (by kernel_rfl) (by simp) ?_
          refine AllReadyH.cons rfl (fun K hK => ?_) (AllReadyH.nil)
          go_simp
          (go_at_call 18; refine (HST2.out U32 HP32.out.tab).mono ?_; rintro e U34 ⟨⟨sD, rfl, sD0, sD1⟩, kx⟩)
          have HP34 := Lib.hid (HP32.out.below kx)
          have HB34 := Lib.hid (HB32.out.trans (kx.mono HB32.out.size))
          replace QE := Lib.hid (QE.out.below kx QE.out.x.lt)
          clear kx
          (try dsimp only)
          refine hK.out _ _ ?_ (fun hHeld => ?_)
          · exact ⟨by have := HP34.out.qa i hi; rw [HQ.out] at this; exact this, HP34.out.q0, HP34.out.q1, (HB34.out.cell (p := ⟨w.heap.size, 4, none⟩) hab).trans hb4⟩
          clear hK K
          refine pt9 ?_
          refine tk9 22 ?_
          obtain ⟨y0, y1, y2, y3, y4, y5, y6, y7, yl⟩ := QE.out.x
          have f0 := QE.out.f 0
          have f1 := QE.out.f 1
          have f2 := QE.out.f 2
          have f3 := QE.out.f 3
          have f4 := QE.out.f 4
          have f5 := QE.out.f 5
          have f6 := QE.out.f 6
          have f7 := QE.out.f 7
          refine wpAnyH_ready (rs := [24]) (by kernel_rfl) (by simp) ?_
          refine AllReadyH.cons rfl (fun K hK => ?_) (AllReadyH.nil)
          go_simp
          have X9 : W8 (st8 U34 g5 0 4 1 0 0 q sA sD) g5 0 4 1 0 0 q sA sD := ⟨st8_cells QE.out.x, fun j => by have := QE.out.f j; simpa [st8] using this⟩
          have B9 : Below V2.heap.size V2 (st8 U34 g5 0 4 1 0 0 q sA sD) := by unfold st8; exact (((((((HB34.out.setCell (p := ⟨g5, 0, none⟩) hgE _).setCell (p := ⟨g5, 1, none⟩) hgE _).setCell (p := ⟨g5, 2, none⟩) hgE _).setCell (p := ⟨g5, 3, none⟩) hgE _).setCell (p := ⟨g5, 4, none⟩) hgE _).setCell (p := ⟨g5, 5, none⟩) hgE _).setCell (p := ⟨g5, 6, none⟩) hgE _).setCell (p := ⟨g5, 7, none⟩) hgE _
          have P9 := HP2.out.below B9
          (try dsimp only)
          refine hK.out _ _ ?_ (fun hHeld => ?_)
          · exact ⟨by have := P9.qa i hi; rw [HQ.out] at this; exact this, P9.q0, P9.q1, (B9.cell (p := ⟨w.heap.size, 4, none⟩) hab).trans hb4⟩
          clear hK K
          refine pt9 ?_
          refine wpAnyH_done (by kernel_rfl) ?_ _
          have HX9 := Lib.hid X9
          have HB9 := Lib.hid B9
          clear X9 B9 P9 QE y0 y1 y2 y3 y4 y5 y6 y7 f0 f1 f2 f3 f4 f5 f6 f7
          go_wp2_with fail
          go_meet
          exact ⟨g5, sA, sD, rfl, HX9.out, hgE, HB9.out, ⟨sA0, sA1⟩, ⟨sD0, sD1⟩⟩
      ·
        go_simp
        have kx : Below U25.heap.size U25 (U25.alloc (.cells #[.int .i64 0, .int .i64 0, .int .i64 0, .int .i64 0, .int .i64 0, .int .u64 0, .int .u64 0, .int .u64 0] 53)) := (Below.refl _ _).alloc (Nat.le_refl _) _
        have HP35 := Lib.hid (HP25.out.below kx)
        have HB35 := Lib.hid (HB25.out.trans (kx.mono HB25.out.size))
        replace zb0 := (kx.cell (p := ⟨GB, 0, none⟩) lgb).trans zb0
        replace zb1 := (kx.cell (p := ⟨GB, 1, none⟩) lgb).trans zb1
        replace lgb := Nat.lt_of_lt_of_le lgb kx.size
        have QE := Lib.hid (W8.mkR9 U25 0 0 0 0 0 0 0 0)
        have hgE : V2.heap.size ≤ U25.heap.size := HB25.out.size
        clear kx
        (try dsimp only)
        refine hK.out _ _ ?_ (fun hHeld => ?_)
        · exact ⟨by have := HP35.out.qa i hi; rw [HQ.out] at this; exact this, HP35.out.q0, HP35.out.q1, (HB35.out.cell (p := ⟨w.heap.size, 4, none⟩) hab).trans hb4⟩
        clear hK K
        refine pt9 ?_
        generalize U25.alloc (.cells #[.int .i64 0, .int .i64 0, .int .i64 0, .int .i64 0, .int .i64 0, .int .u64 0, .int .u64 0, .int .u64 0] 53) = U35 at *
        generalize U25.heap.size = g5 at *
        refine wpAnyH_ready (rs := [11]) (by kernel_rfl) (by simp) ?_
        refine AllReadyH.cons rfl (fun K hK => ?_) (AllReadyH.nil)
        go_simp
        (go_at_call 18; refine (HST.out U35 HP35.out.tab).mono ?_; rintro e U36 ⟨⟨sA, rfl, sA0, sA1⟩, kx⟩)
        have HP36 := Lib.hid (HP35.out.below kx)
        have HB36 := Lib.hid (HB35.out.trans (kx.mono HB35.out.size))
        replace QE := Lib.hid (QE.out.below kx QE.out.x.lt)
        replace zb0 := (kx.cell (p := ⟨GB, 0, none⟩) lgb).trans zb0
        replace zb1 := (kx.cell (p := ⟨GB, 1, none⟩) lgb).trans zb1
        replace lgb := Nat.lt_of_lt_of_le lgb kx.size
        clear kx
        (try dsimp only)
        refine hK.out _ _ ?_ (fun hHeld => ?_)
        · exact ⟨by have := HP36.out.qa i hi; rw [HQ.out] at this; exact this, HP36.out.q0, HP36.out.q1, (HB36.out.cell (p := ⟨w.heap.size, 4, none⟩) hab).trans hb4⟩
        clear hK K
        refine pt9 ?_
        refine wpAnyH_ready (rs := [20]) (by kernel_rfl) (by simp) ?_
        refine AllReadyH.cons rfl (fun K hK => ?_) (AllReadyH.nil)
        go_simp
        (go_at_call 37; refine (HA2.out GB U36 zb0 zb1).mono ?_; rintro e w' ⟨rfl, rfl⟩)
        (try dsimp only)
        refine hK.out _ _ ?_ (fun hHeld => ?_)
        · exact ⟨by have := HP36.out.qa i hi; rw [HQ.out] at this; exact this, HP36.out.q0, HP36.out.q1, (HB36.out.cell (p := ⟨w.heap.size, 4, none⟩) hab).trans hb4⟩
        clear hK K
        refine pt9 ?_
        refine wpAnyH_ready (rs := [21]) (by kernel_rfl) (by simp) ?_
        refine AllReadyH.cons rfl (fun K hK => ?_) (AllReadyH.nil)
        go_simp
        (go_at_call 18; refine (HST2.out U36 HP36.out.tab).mono ?_; rintro e U38 ⟨⟨sD, rfl, sD0, sD1⟩, kx⟩)
        have HP38 := Lib.hid (HP36.out.below kx)
        have HB38 := Lib.hid (HB36.out.trans (kx.mono HB36.out.size))
        replace QE := Lib.hid (QE.out.below kx QE.out.x.lt)
        clear kx
        (try dsimp only)
        refine hK.out _ _ ?_ (fun hHeld => ?_)
        · exact ⟨by have := HP38.out.qa i hi; rw [HQ.out] at this; exact this, HP38.out.q0, HP38.out.q1, (HB38.out.cell (p := ⟨w.heap.size, 4, none⟩) hab).trans hb4⟩
        clear hK K
        refine pt9 ?_
        refine tk9 22 ?_
        obtain ⟨y0, y1, y2, y3, y4, y5, y6, y7, yl⟩ := QE.out.x
        have f0 := QE.out.f 0
        have f1 := QE.out.f 1
        have f2 := QE.out.f 2
        have f3 := QE.out.f 3
        have f4 := QE.out.f 4
        have f5 := QE.out.f 5
        have f6 := QE.out.f 6
        have f7 := QE.out.f 7
        refine wpAnyH_ready (rs := [24]) (by kernel_rfl) (by simp) ?_
        refine AllReadyH.cons rfl (fun K hK => ?_) (AllReadyH.nil)
        go_simp
        have X9 : W8 (st8 U38 g5 0 4 1 0 0 q sA sD) g5 0 4 1 0 0 q sA sD := ⟨st8_cells QE.out.x, fun j => by have := QE.out.f j; simpa [st8] using this⟩
        have B9 : Below V2.heap.size V2 (st8 U38 g5 0 4 1 0 0 q sA sD) := by unfold st8; exact (((((((HB38.out.setCell (p := ⟨g5, 0, none⟩) hgE _).setCell (p := ⟨g5, 1, none⟩) hgE _).setCell (p := ⟨g5, 2, none⟩) hgE _).setCell (p := ⟨g5, 3, none⟩) hgE _).setCell (p := ⟨g5, 4, none⟩) hgE _).setCell (p := ⟨g5, 5, none⟩) hgE _).setCell (p := ⟨g5, 6, none⟩) hgE _).setCell (p := ⟨g5, 7, none⟩) hgE _
        have P9 := HP2.out.below B9
        (try dsimp only)
        refine hK.out _ _ ?_ (fun hHeld => ?_)
        · exact ⟨by have := P9.qa i hi; rw [HQ.out] at this; exact this, P9.q0, P9.q1, (B9.cell (p := ⟨w.heap.size, 4, none⟩) hab).trans hb4⟩
        clear hK K
        refine pt9 ?_
        refine wpAnyH_done (by kernel_rfl) ?_ _
        have HX9 := Lib.hid X9
        have HB9 := Lib.hid B9
        clear X9 B9 P9 QE y0 y1 y2 y3 y4 y5 y6 y7 f0 f1 f2 f3 f4 f5 f6 f7
        go_wp2_with fail
        go_meet
        exact ⟨g5, sA, sD, rfl, HX9.out, hgE, HB9.out, ⟨sA0, sA1⟩, ⟨sD0, sD1⟩⟩
    ·
      go_simp
      have kx : Below V3.heap.size V3 (V3.alloc (.cells #[.int .i64 0, .int .i64 0, .int .i64 0, .int .i64 0, .int .i64 0, .int .u64 0, .int .u64 0, .int .u64 0] 53)) := (Below.refl _ _).alloc (Nat.le_refl _) _
      have HP39 := Lib.hid (HP3.out.below kx)
      have HB39 := Lib.hid (HB3.out.trans (kx.mono HB3.out.size))
      have QE := Lib.hid (W8.mkR9 V3 0 0 0 0 0 0 0 0)
      have hgE : V2.heap.size ≤ V3.heap.size := HB3.out.size
      clear kx
      (try dsimp only)
      refine hK.out _ _ ?_ (fun hHeld => ?_)
      · exact ⟨by have := HP39.out.qa i hi; rw [HQ.out] at this; exact this, HP39.out.q0, HP39.out.q1, (HB39.out.cell (p := ⟨w.heap.size, 4, none⟩) hab).trans hb4⟩
      clear hK K
      refine pt9 ?_
      generalize V3.alloc (.cells #[.int .i64 0, .int .i64 0, .int .i64 0, .int .i64 0, .int .i64 0, .int .u64 0, .int .u64 0, .int .u64 0] 53) = U39 at *
      generalize V3.heap.size = g5 at *
      refine wpAnyH_ready (rs := [11, 19]) (by kernel_rfl) (by simp) ?_
      refine AllReadyH.cons rfl (fun K hK => ?_) (AllReadyH.cons rfl (fun K hK => ?_) (AllReadyH.nil))
      ·
        go_simp
        (go_at_call 18; refine (HST.out U39 HP39.out.tab).mono ?_; rintro e U40 ⟨⟨sA, rfl, sA0, sA1⟩, kx⟩)
        have HP40 := Lib.hid (HP39.out.below kx)
        have HB40 := Lib.hid (HB39.out.trans (kx.mono HB39.out.size))
        replace QE := Lib.hid (QE.out.below kx QE.out.x.lt)
        clear kx
        (try dsimp only)
        refine hK.out _ _ ?_ (fun hHeld => ?_)
        · exact ⟨by have := HP40.out.qa i hi; rw [HQ.out] at this; exact this, HP40.out.q0, HP40.out.q1, (HB40.out.cell (p := ⟨w.heap.size, 4, none⟩) hab).trans hb4⟩
        clear hK K
        refine pt9 ?_
        refine wpAnyH_ready (rs := [19]) (by kernel_rfl) (by simp) ?_
        refine AllReadyH.cons rfl (fun K hK => ?_) (AllReadyH.nil)
        go_simp
        have kx : Below U40.heap.size U40 (U40.alloc (.cells #[.int .i64 T, .int .i64 tk] 3)) := (Below.refl _ _).alloc (Nat.le_refl _) _
        have HP41 := Lib.hid (HP40.out.below kx)
        have HB41 := Lib.hid (HB40.out.trans (kx.mono HB40.out.size))
        replace QE := Lib.hid (QE.out.below kx QE.out.x.lt)
        have zb0 : (U40.alloc (.cells #[.int .i64 T, .int .i64 tk] 3)).cell? ⟨U40.heap.size, 0, none⟩ = some (.int .i64 T) := by simp
        have zb1 : (U40.alloc (.cells #[.int .i64 T, .int .i64 tk] 3)).cell? ⟨U40.heap.size, 1, none⟩ = some (.int .i64 tk) := by simp
        have lgb : U40.heap.size < (U40.alloc (.cells #[.int .i64 T, .int .i64 tk] 3)).heap.size := by simp
        clear kx
        (try dsimp only)
        refine hK.out _ _ ?_ (fun hHeld => ?_)
        · exact ⟨by have := HP41.out.qa i hi; rw [HQ.out] at this; exact this, HP41.out.q0, HP41.out.q1, (HB41.out.cell (p := ⟨w.heap.size, 4, none⟩) hab).trans hb4⟩
        clear hK K
        refine pt9 ?_
        generalize U40.alloc (.cells #[.int .i64 T, .int .i64 tk] 3) = U41 at *
        generalize U40.heap.size = GB at *
        refine wpAnyH_ready (rs := [20]) (by kernel_rfl) (by simp) ?_
        refine AllReadyH.cons rfl (fun K hK => ?_) (AllReadyH.nil)
        go_simp
        (go_at_call 37; refine (HA2.out GB U41 zb0 zb1).mono ?_; rintro e w' ⟨rfl, rfl⟩)
        (try dsimp only)
        refine hK.out _ _ ?_ (fun hHeld => ?_)
        · exact ⟨by have := HP41.out.qa i hi; rw [HQ.out] at this; exact this, HP41.out.q0, HP41.out.q1, (HB41.out.cell (p := ⟨w.heap.size, 4, none⟩) hab).trans hb4⟩
        clear hK K
        refine pt9 ?_
        refine wpAnyH_ready (rs := [21]) (by kernel_rfl) (by simp) ?_
        refine AllReadyH.cons rfl (fun K hK => ?_) (AllReadyH.nil)
        go_simp
        (go_at_call 18; refine (HST2.out U41 HP41.out.tab).mono ?_; rintro e U43 ⟨⟨sD, rfl, sD0, sD1⟩, kx⟩)
        have HP43 := Lib.hid (HP41.out.below kx)
        have HB43 := Lib.hid (HB41.out.trans (kx.mono HB41.out.size))
        replace QE := Lib.hid (QE.out.below kx QE.out.x.lt)
        clear kx
        (try dsimp only)
        refine hK.out _ _ ?_ (fun hHeld => ?_)
        · exact ⟨by have := HP43.out.qa i hi; rw [HQ.out] at this; exact this, HP43.out.q0, HP43.out.q1, (HB43.out.cell (p := ⟨w.heap.size, 4, none⟩) hab).trans hb4⟩
        clear hK K
        refine pt9 ?_
        refine tk9 22 ?_
        obtain ⟨y0, y1, y2, y3, y4, y5, y6, y7, yl⟩ := QE.out.x
        have f0 := QE.out.f 0
        have f1 := QE.out.f 1
        have f2 := QE.out.f 2
        have f3 := QE.out.f 3
        have f4 := QE.out.f 4
        have f5 := QE.out.f 5
        have f6 := QE.out.f 6
        have f7 := QE.out.f 7
        refine wpAnyH_ready (rs := [24]) (by kernel_rfl) (by simp) ?_
        refine AllReadyH.cons rfl (fun K hK => ?_) (AllReadyH.nil)
        go_simp
        have X9 : W8 (st8 U43 g5 0 4 1 0 0 q sA sD) g5 0 4 1 0 0 q sA sD := ⟨st8_cells QE.out.x, fun j => by have := QE.out.f j; simpa [st8] using this⟩
        have B9 : Below V2.heap.size V2 (st8 U43 g5 0 4 1 0 0 q sA sD) := by unfold st8; exact (((((((HB43.out.setCell (p := ⟨g5, 0, none⟩) hgE _).setCell (p := ⟨g5, 1, none⟩) hgE _).setCell (p := ⟨g5, 2, none⟩) hgE _).setCell (p := ⟨g5, 3, none⟩) hgE _).setCell (p := ⟨g5, 4, none⟩) hgE _).setCell (p := ⟨g5, 5, none⟩) hgE _).setCell (p := ⟨g5, 6, none⟩) hgE _).setCell (p := ⟨g5, 7, none⟩) hgE _
        have P9 := HP2.out.below B9
        (try dsimp only)
        refine hK.out _ _ ?_ (fun hHeld => ?_)
        · exact ⟨by have := P9.qa i hi; rw [HQ.out] at this; exact this, P9.q0, P9.q1, (B9.cell (p := ⟨w.heap.size, 4, none⟩) hab).trans hb4⟩
        clear hK K
        refine pt9 ?_
        refine wpAnyH_done (by kernel_rfl) ?_ _
        have HX9 := Lib.hid X9
        have HB9 := Lib.hid B9
        clear X9 B9 P9 QE y0 y1 y2 y3 y4 y5 y6 y7 f0 f1 f2 f3 f4 f5 f6 f7
        go_wp2_with fail
        go_meet
        exact ⟨g5, sA, sD, rfl, HX9.out, hgE, HB9.out, ⟨sA0, sA1⟩, ⟨sD0, sD1⟩⟩
      ·
        go_simp
        have kx : Below U39.heap.size U39 (U39.alloc (.cells #[.int .i64 T, .int .i64 tk] 3)) := (Below.refl _ _).alloc (Nat.le_refl _) _
        have HP44 := Lib.hid (HP39.out.below kx)
        have HB44 := Lib.hid (HB39.out.trans (kx.mono HB39.out.size))
        replace QE := Lib.hid (QE.out.below kx QE.out.x.lt)
        have zb0 : (U39.alloc (.cells #[.int .i64 T, .int .i64 tk] 3)).cell? ⟨U39.heap.size, 0, none⟩ = some (.int .i64 T) := by simp
        have zb1 : (U39.alloc (.cells #[.int .i64 T, .int .i64 tk] 3)).cell? ⟨U39.heap.size, 1, none⟩ = some (.int .i64 tk) := by simp
        have lgb : U39.heap.size < (U39.alloc (.cells #[.int .i64 T, .int .i64 tk] 3)).heap.size := by simp
        clear kx
        (try dsimp only)
        refine hK.out _ _ ?_ (fun hHeld => ?_)
        · exact ⟨by have := HP44.out.qa i hi; rw [HQ.out] at this; exact this, HP44.out.q0, HP44.out.q1, (HB44.out.cell (p := ⟨w.heap.size, 4, none⟩) hab).trans hb4⟩
        clear hK K
        refine pt9 ?_
        generalize U39.alloc (.cells #[.int .i64 T, .int .i64 tk] 3) = U44 at *
        generalize U39.heap.size = GB at *
        refine wpAnyH_ready (rs := [11]) (by kernel_rfl) (by simp) ?_
        refine AllReadyH.cons rfl (fun K hK => ?_) (AllReadyH.nil)
        go_simp
        (go_at_call 18; refine (HST.out U44 HP44.out.tab).mono ?_; rintro e U45 ⟨⟨sA, rfl, sA0, sA1⟩, kx⟩)
        have HP45 := Lib.hid (HP44.out.below kx)
        have HB45 := Lib.hid (HB44.out.trans (kx.mono HB44.out.size))
        replace QE := Lib.hid (QE.out.below kx QE.out.x.lt)
        replace zb0 := (kx.cell (p := ⟨GB, 0, none⟩) lgb).trans zb0
        replace zb1 := (kx.cell (p := ⟨GB, 1, none⟩) lgb).trans zb1
        replace lgb := Nat.lt_of_lt_of_le lgb kx.size
        clear kx
        (try dsimp only)
        refine hK.out _ _ ?_ (fun hHeld => ?_)
        · exact ⟨by have := HP45.out.qa i hi; rw [HQ.out] at this; exact this, HP45.out.q0, HP45.out.q1, (HB45.out.cell (p := ⟨w.heap.size, 4, none⟩) hab).trans hb4⟩
        clear hK K
        refine pt9 ?_
        refine wpAnyH_ready (rs := [20]) (by kernel_rfl) (by simp) ?_
        refine AllReadyH.cons rfl (fun K hK => ?_) (AllReadyH.nil)
        go_simp
        (go_at_call 37; refine (HA2.out GB U45 zb0 zb1).mono ?_; rintro e w' ⟨rfl, rfl⟩)
        (try dsimp only)
        refine hK.out _ _ ?_ (fun hHeld => ?_)
        · exact ⟨by have := HP45.out.qa i hi; rw [HQ.out] at this; exact this, HP45.out.q0, HP45.out.q1, (HB45.out.cell (p := ⟨w.heap.size, 4, none⟩) hab).trans hb4⟩
        clear hK K
        refine pt9 ?_
        refine wpAnyH_ready (rs := [21]) (by kernel_rfl) (by simp) ?_
        refine AllReadyH.cons rfl (fun K hK => ?_) (AllReadyH.nil)
        go_simp
        (go_at_call 18; refine (HST2.out U45 HP45.out.tab).mono ?_; rintro e U47 ⟨⟨sD, rfl, sD0, sD1⟩, kx⟩)
        have HP47 := Lib.hid (HP45.out.below kx)
        have HB47 := Lib.hid (HB45.out.trans (kx.mono HB45.out.size))
        replace QE := Lib.hid (QE.out.below kx QE.out.x.lt)
        clear kx
        (try dsimp only)
        refine hK.out _ _ ?_ (fun hHeld => ?_)
        · exact ⟨by have := HP47.out.qa i hi; rw [HQ.out] at this; exact this, HP47.out.q0, HP47.out.q1, (HB47.out.cell (p := ⟨w.heap.size, 4, none⟩) hab).trans hb4⟩
        clear hK K
        refine pt9 ?_
        refine tk9 22 ?_
        obtain ⟨y0, y1, y2, y3, y4, y5, y6, y7, yl⟩ := QE.out.x
        have f0 := QE.out.f 0
        have f1 := QE.out.f 1
        have f2 := QE.out.f 2
        have f3 := QE.out.f 3
        have f4 := QE.out.f 4
        have f5 := QE.out.f 5
        have f6 := QE.out.f 6
        have f7 := QE.out.f 7
        refine wpAnyH_ready (rs := [24]) (by kernel_rfl) (by simp) ?_
        refine AllReadyH.cons rfl (fun K hK => ?_) (AllReadyH.nil)
        go_simp
        have X9 : W8 (st8 U47 g5 0 4 1 0 0 q sA sD) g5 0 4 1 0 0 q sA sD := ⟨st8_cells QE.out.x, fun j => by have := QE.out.f j; simpa [st8] using this⟩
        have B9 : Below V2.heap.size V2 (st8 U47 g5 0 4 1 0 0 q sA sD) := by unfold st8; exact (((((((HB47.out.setCell (p := ⟨g5, 0, none⟩) hgE _).setCell (p := ⟨g5, 1, none⟩) hgE _).setCell (p := ⟨g5, 2, none⟩) hgE _).setCell (p := ⟨g5, 3, none⟩) hgE _).setCell (p := ⟨g5, 4, none⟩) hgE _).setCell (p := ⟨g5, 5, none⟩) hgE _).setCell (p := ⟨g5, 6, none⟩) hgE _).setCell (p := ⟨g5, 7, none⟩) hgE _
        have P9 := HP2.out.below B9
        (try dsimp only)
        refine hK.out _ _ ?_ (fun hHeld => ?_)
        · exact ⟨by have := P9.qa i hi; rw [HQ.out] at this; exact this, P9.q0, P9.q1, (B9.cell (p := ⟨w.heap.size, 4, none⟩) hab).trans hb4⟩
        clear hK K
        refine pt9 ?_
        refine wpAnyH_done (by kernel_rfl) ?_ _
        have HX9 := Lib.hid X9
        have HB9 := Lib.hid B9
        clear X9 B9 P9 QE y0 y1 y2 y3 y4 y5 y6 y7 f0 f1 f2 f3 f4 f5 f6 f7
        go_wp2_with fail
        go_meet
        exact ⟨g5, sA, sD, rfl, HX9.out, hgE, HB9.out, ⟨sA0, sA1⟩, ⟨sD0, sD1⟩⟩
  case rest =>
  obtain ⟨g5, s, s2, rfl, hw8, hg5, hB5, hs1, hs2⟩ := hcut
  generalize wc = W5 at *
  have b5 := (hB5.cell (p := ⟨w.heap.size, 5, none⟩) lb).trans b5
  have b4x := Lib.hid ((hB5.cell (p := ⟨w.heap.size, 4, none⟩) lb).trans b4)
  have HB5 := Lib.hid (HB2.out.trans (hB5.mono HB2.out.size))
  obtain ⟨y0, y1, y2, y3, y4, y5, y6, y7, yl⟩ := hw8.x
  have f0 := hw8.f 0
  have f1 := hw8.f 1
  have f2 := hw8.f 2
  have f3 := hw8.f 3
  have f4 := hw8.f 4
  have f5 := hw8.f 5
  have f6 := hw8.f 6
  have f7 := hw8.f 7
  have hag : w.heap.size ≤ g5 := by omega
  have HW8 := Lib.hid hw8
  have HE := Lib.hid (fun (p : Pk) (hp : p.ok) (W : World) => ref6_enc p hp W)
  have HS := Lib.hid (And.intro hs1 hs2)
  clear hw8 hB5 HP2 HB2 b3 b4 hHeld hs1 hs2
  have hwv := HWA.out
  rcases (show way = 1 ∨ way = 2 ∨ way = 3 ∨ way = 4 ∨ way = 5 ∨ way = 6 ∨ way = 7 ∨ way = 8 ∨ way = 9 ∨ (way = 0 ∨ 10 ≤ way) from by omega) with rfl | rfl | rfl | rfl | rfl | rfl | rfl | rfl | rfl | hw0
  · as_aux_lemma =>
    have HBF := Lib.hid (HB5.out.setCell (p := ⟨g5, 0, none⟩) hag (.int .i64 3))
    have x0 := World.cell?_setCell_same W5 ⟨g5, 0, none⟩ (.int .i64 3) y0
    have x1 := (World.cell?_setCell_other W5 ⟨g5, 0, none⟩ ⟨g5, 1, none⟩ (.int .i64 3) (by simp)).trans y1
    have x2 := (World.cell?_setCell_other W5 ⟨g5, 0, none⟩ ⟨g5, 2, none⟩ (.int .i64 3) (by simp)).trans y2
    have x3 := (World.cell?_setCell_other W5 ⟨g5, 0, none⟩ ⟨g5, 3, none⟩ (.int .i64 3) (by simp)).trans y3
    have x4 := (World.cell?_setCell_other W5 ⟨g5, 0, none⟩ ⟨g5, 4, none⟩ (.int .i64 3) (by simp)).trans y4
    have x5 := (World.cell?_setCell_other W5 ⟨g5, 0, none⟩ ⟨g5, 5, none⟩ (.int .i64 3) (by simp)).trans y5
    have x6 := (World.cell?_setCell_other W5 ⟨g5, 0, none⟩ ⟨g5, 6, none⟩ (.int .i64 3) (by simp)).trans y6
    have x7 := (World.cell?_setCell_other W5 ⟨g5, 0, none⟩ ⟨g5, 7, none⟩ (.int .i64 3) (by simp)).trans y7
    have hok : Pk.ok ⟨3, 4, 1, 0, 0, q, s, s2⟩ := by
      have := HS.out
      have := HM8.out
      exact ⟨by simp only; omega, by simp only; omega, by simp only; omega, by simp only; omega, by simp only; omega, by simp only; omega, by simp only; omega, by simp only; omega⟩
    have HOK := Lib.hid hok
    clear hok
    go_wp2_with fail
    refine (HE.out ⟨3, 4, 1, 0, 0, q, s, s2⟩ HOK.out _).mono ?_; rintro e w9 ⟨g9, c9, rfl, hg9, hp9, k9⟩
    have HB9 := Lib.hid (HBF.out.trans (k9.mono HBF.out.size))
    have HP9 := Lib.hid hp9
    have hz9 := HBF.out.size
    clear k9 hp9
    go_wp2_with fail
    go_ret
    exact ⟨⟨g9, c9, _, rfl, by omega, HP9.out, HOK.out⟩, HB9.out⟩
  · as_aux_lemma =>
    have HBF := Lib.hid (HB5.out.setCell (p := ⟨g5, 2, none⟩) hag (.int .i64 0))
    have x0 := (World.cell?_setCell_other W5 ⟨g5, 2, none⟩ ⟨g5, 0, none⟩ (.int .i64 0) (by simp)).trans y0
    have x1 := (World.cell?_setCell_other W5 ⟨g5, 2, none⟩ ⟨g5, 1, none⟩ (.int .i64 0) (by simp)).trans y1
    have x2 := World.cell?_setCell_same W5 ⟨g5, 2, none⟩ (.int .i64 0) y2
    have x3 := (World.cell?_setCell_other W5 ⟨g5, 2, none⟩ ⟨g5, 3, none⟩ (.int .i64 0) (by simp)).trans y3
    have x4 := (World.cell?_setCell_other W5 ⟨g5, 2, none⟩ ⟨g5, 4, none⟩ (.int .i64 0) (by simp)).trans y4
    have x5 := (World.cell?_setCell_other W5 ⟨g5, 2, none⟩ ⟨g5, 5, none⟩ (.int .i64 0) (by simp)).trans y5
    have x6 := (World.cell?_setCell_other W5 ⟨g5, 2, none⟩ ⟨g5, 6, none⟩ (.int .i64 0) (by simp)).trans y6
    have x7 := (World.cell?_setCell_other W5 ⟨g5, 2, none⟩ ⟨g5, 7, none⟩ (.int .i64 0) (by simp)).trans y7
    have hok : Pk.ok ⟨0, 4, 0, 0, 0, q, s, s2⟩ := by
      have := HS.out
      have := HM8.out
      exact ⟨by simp only; omega, by simp only; omega, by simp only; omega, by simp only; omega, by simp only; omega, by simp only; omega, by simp only; omega, by simp only; omega⟩
    have HOK := Lib.hid hok
    clear hok
    go_wp2_with fail
    refine (HE.out ⟨0, 4, 0, 0, 0, q, s, s2⟩ HOK.out _).mono ?_; rintro e w9 ⟨g9, c9, rfl, hg9, hp9, k9⟩
    have HB9 := Lib.hid (HBF.out.trans (k9.mono HBF.out.size))
    have HP9 := Lib.hid hp9
    have hz9 := HBF.out.size
    clear k9 hp9
    go_wp2_with fail
    go_ret
    exact ⟨⟨g9, c9, _, rfl, by omega, HP9.out, HOK.out⟩, HB9.out⟩
  · as_aux_lemma =>
    have HBF := Lib.hid (HB5.out.setCell (p := ⟨g5, 2, none⟩) hag (.int .i64 16))
    have x0 := (World.cell?_setCell_other W5 ⟨g5, 2, none⟩ ⟨g5, 0, none⟩ (.int .i64 16) (by simp)).trans y0
    have x1 := (World.cell?_setCell_other W5 ⟨g5, 2, none⟩ ⟨g5, 1, none⟩ (.int .i64 16) (by simp)).trans y1
    have x2 := World.cell?_setCell_same W5 ⟨g5, 2, none⟩ (.int .i64 16) y2
    have x3 := (World.cell?_setCell_other W5 ⟨g5, 2, none⟩ ⟨g5, 3, none⟩ (.int .i64 16) (by simp)).trans y3
    have x4 := (World.cell?_setCell_other W5 ⟨g5, 2, none⟩ ⟨g5, 4, none⟩ (.int .i64 16) (by simp)).trans y4
    have x5 := (World.cell?_setCell_other W5 ⟨g5, 2, none⟩ ⟨g5, 5, none⟩ (.int .i64 16) (by simp)).trans y5
    have x6 := (World.cell?_setCell_other W5 ⟨g5, 2, none⟩ ⟨g5, 6, none⟩ (.int .i64 16) (by simp)).trans y6
    have x7 := (World.cell?_setCell_other W5 ⟨g5, 2, none⟩ ⟨g5, 7, none⟩ (.int .i64 16) (by simp)).trans y7
    have hok : Pk.ok ⟨0, 4, 16, 0, 0, q, s, s2⟩ := by
      have := HS.out
      have := HM8.out
      exact ⟨by simp only; omega, by simp only; omega, by simp only; omega, by simp only; omega, by simp only; omega, by simp only; omega, by simp only; omega, by simp only; omega⟩
    have HOK := Lib.hid hok
    clear hok
    go_wp2_with fail
    refine (HE.out ⟨0, 4, 16, 0, 0, q, s, s2⟩ HOK.out _).mono ?_; rintro e w9 ⟨g9, c9, rfl, hg9, hp9, k9⟩
    have HB9 := Lib.hid (HBF.out.trans (k9.mono HBF.out.size))
    have HP9 := Lib.hid hp9
    have hz9 := HBF.out.size
    clear k9 hp9
    go_wp2_with fail
    go_ret
    exact ⟨⟨g9, c9, _, rfl, by omega, HP9.out, HOK.out⟩, HB9.out⟩
  · as_aux_lemma =>
    have wx : IntKind.u64.wrap (q + 1) = (q + 1) % 18446744073709551616 := by rw [IntKind.wrap_u64]
    have HBF := Lib.hid (HB5.out.setCell (p := ⟨g5, 5, none⟩) hag (.int .u64 ((q + 1) % 18446744073709551616)))
    have x0 := (World.cell?_setCell_other W5 ⟨g5, 5, none⟩ ⟨g5, 0, none⟩ (.int .u64 ((q + 1) % 18446744073709551616)) (by simp)).trans y0
    have x1 := (World.cell?_setCell_other W5 ⟨g5, 5, none⟩ ⟨g5, 1, none⟩ (.int .u64 ((q + 1) % 18446744073709551616)) (by simp)).trans y1
    have x2 := (World.cell?_setCell_other W5 ⟨g5, 5, none⟩ ⟨g5, 2, none⟩ (.int .u64 ((q + 1) % 18446744073709551616)) (by simp)).trans y2
    have x3 := (World.cell?_setCell_other W5 ⟨g5, 5, none⟩ ⟨g5, 3, none⟩ (.int .u64 ((q + 1) % 18446744073709551616)) (by simp)).trans y3
    have x4 := (World.cell?_setCell_other W5 ⟨g5, 5, none⟩ ⟨g5, 4, none⟩ (.int .u64 ((q + 1) % 18446744073709551616)) (by simp)).trans y4
    have x5 := World.cell?_setCell_same W5 ⟨g5, 5, none⟩ (.int .u64 ((q + 1) % 18446744073709551616)) y5
    have x6 := (World.cell?_setCell_other W5 ⟨g5, 5, none⟩ ⟨g5, 6, none⟩ (.int .u64 ((q + 1) % 18446744073709551616)) (by simp)).trans y6
    have x7 := (World.cell?_setCell_other W5 ⟨g5, 5, none⟩ ⟨g5, 7, none⟩ (.int .u64 ((q + 1) % 18446744073709551616)) (by simp)).trans y7
    have hok : Pk.ok ⟨0, 4, 1, 0, 0, ((q + 1) % 18446744073709551616), s, s2⟩ := by
      have := HS.out
      have := HM8.out
      exact ⟨by simp only; omega, by simp only; omega, by simp only; omega, by simp only; omega, by simp only; omega, by simp only; omega, by simp only; omega, by simp only; omega⟩
    have HOK := Lib.hid hok
    clear hok
    go_wp2_with fail
    refine (HE.out ⟨0, 4, 1, 0, 0, ((q + 1) % 18446744073709551616), s, s2⟩ HOK.out _).mono ?_; rintro e w9 ⟨g9, c9, rfl, hg9, hp9, k9⟩
    have HB9 := Lib.hid (HBF.out.trans (k9.mono HBF.out.size))
    have HP9 := Lib.hid hp9
    have hz9 := HBF.out.size
    clear k9 hp9
    go_wp2_with fail
    go_ret
    exact ⟨⟨g9, c9, _, rfl, by omega, HP9.out, HOK.out⟩, HB9.out⟩
  · as_aux_lemma =>
    have HBF := Lib.hid (HB5.out.setCell (p := ⟨g5, 1, none⟩) hag (.int .i64 3))
    have x0 := (World.cell?_setCell_other W5 ⟨g5, 1, none⟩ ⟨g5, 0, none⟩ (.int .i64 3) (by simp)).trans y0
    have x1 := World.cell?_setCell_same W5 ⟨g5, 1, none⟩ (.int .i64 3) y1
    have x2 := (World.cell?_setCell_other W5 ⟨g5, 1, none⟩ ⟨g5, 2, none⟩ (.int .i64 3) (by simp)).trans y2
    have x3 := (World.cell?_setCell_other W5 ⟨g5, 1, none⟩ ⟨g5, 3, none⟩ (.int .i64 3) (by simp)).trans y3
    have x4 := (World.cell?_setCell_other W5 ⟨g5, 1, none⟩ ⟨g5, 4, none⟩ (.int .i64 3) (by simp)).trans y4
    have x5 := (World.cell?_setCell_other W5 ⟨g5, 1, none⟩ ⟨g5, 5, none⟩ (.int .i64 3) (by simp)).trans y5
    have x6 := (World.cell?_setCell_other W5 ⟨g5, 1, none⟩ ⟨g5, 6, none⟩ (.int .i64 3) (by simp)).trans y6
    have x7 := (World.cell?_setCell_other W5 ⟨g5, 1, none⟩ ⟨g5, 7, none⟩ (.int .i64 3) (by simp)).trans y7
    have hok : Pk.ok ⟨0, 3, 1, 0, 0, q, s, s2⟩ := by
      have := HS.out
      have := HM8.out
      exact ⟨by simp only; omega, by simp only; omega, by simp only; omega, by simp only; omega, by simp only; omega, by simp only; omega, by simp only; omega, by simp only; omega⟩
    have HOK := Lib.hid hok
    clear hok
    go_wp2_with fail
    refine (HE.out ⟨0, 3, 1, 0, 0, q, s, s2⟩ HOK.out _).mono ?_; rintro e w9 ⟨g9, c9, rfl, hg9, hp9, k9⟩
    have HB9 := Lib.hid (HBF.out.trans (k9.mono HBF.out.size))
    have HP9 := Lib.hid hp9
    have hz9 := HBF.out.size
    clear k9 hp9
    go_wp2_with fail
    go_ret
    exact ⟨⟨g9, c9, _, rfl, by omega, HP9.out, HOK.out⟩, HB9.out⟩
  · as_aux_lemma =>
    have HBF := Lib.hid (HB5.out.setCell (p := ⟨g5, 6, none⟩) hag (.int .u64 0))
    have x0 := (World.cell?_setCell_other W5 ⟨g5, 6, none⟩ ⟨g5, 0, none⟩ (.int .u64 0) (by simp)).trans y0
    have x1 := (World.cell?_setCell_other W5 ⟨g5, 6, none⟩ ⟨g5, 1, none⟩ (.int .u64 0) (by simp)).trans y1
    have x2 := (World.cell?_setCell_other W5 ⟨g5, 6, none⟩ ⟨g5, 2, none⟩ (.int .u64 0) (by simp)).trans y2
    have x3 := (World.cell?_setCell_other W5 ⟨g5, 6, none⟩ ⟨g5, 3, none⟩ (.int .u64 0) (by simp)).trans y3
    have x4 := (World.cell?_setCell_other W5 ⟨g5, 6, none⟩ ⟨g5, 4, none⟩ (.int .u64 0) (by simp)).trans y4
    have x5 := (World.cell?_setCell_other W5 ⟨g5, 6, none⟩ ⟨g5, 5, none⟩ (.int .u64 0) (by simp)).trans y5
    have x6 := World.cell?_setCell_same W5 ⟨g5, 6, none⟩ (.int .u64 0) y6
    have x7 := (World.cell?_setCell_other W5 ⟨g5, 6, none⟩ ⟨g5, 7, none⟩ (.int .u64 0) (by simp)).trans y7
    have hok : Pk.ok ⟨0, 4, 1, 0, 0, q, 0, s2⟩ := by
      have := HS.out
      have := HM8.out
      exact ⟨by simp only; omega, by simp only; omega, by simp only; omega, by simp only; omega, by simp only; omega, by simp only; omega, by simp only; omega, by simp only; omega⟩
    have HOK := Lib.hid hok
    clear hok
    go_wp2_with fail
    refine (HE.out ⟨0, 4, 1, 0, 0, q, 0, s2⟩ HOK.out _).mono ?_; rintro e w9 ⟨g9, c9, rfl, hg9, hp9, k9⟩
    have HB9 := Lib.hid (HBF.out.trans (k9.mono HBF.out.size))
    have HP9 := Lib.hid hp9
    have hz9 := HBF.out.size
    clear k9 hp9
    go_wp2_with fail
    go_ret
    exact ⟨⟨g9, c9, _, rfl, by omega, HP9.out, HOK.out⟩, HB9.out⟩
  · as_aux_lemma =>
    have wx : IntKind.u64.wrap (s - 4294967296) = (s - 4294967296) % 18446744073709551616 := by rw [IntKind.wrap_u64]
    have HBF := Lib.hid (HB5.out.setCell (p := ⟨g5, 7, none⟩) hag (.int .u64 ((s - 4294967296) % 18446744073709551616)))
    have x0 := (World.cell?_setCell_other W5 ⟨g5, 7, none⟩ ⟨g5, 0, none⟩ (.int .u64 ((s - 4294967296) % 18446744073709551616)) (by simp)).trans y0
    have x1 := (World.cell?_setCell_other W5 ⟨g5, 7, none⟩ ⟨g5, 1, none⟩ (.int .u64 ((s - 4294967296) % 18446744073709551616)) (by simp)).trans y1
    have x2 := (World.cell?_setCell_other W5 ⟨g5, 7, none⟩ ⟨g5, 2, none⟩ (.int .u64 ((s - 4294967296) % 18446744073709551616)) (by simp)).trans y2
    have x3 := (World.cell?_setCell_other W5 ⟨g5, 7, none⟩ ⟨g5, 3, none⟩ (.int .u64 ((s - 4294967296) % 18446744073709551616)) (by simp)).trans y3
    have x4 := (World.cell?_setCell_other W5 ⟨g5, 7, none⟩ ⟨g5, 4, none⟩ (.int .u64 ((s - 4294967296) % 18446744073709551616)) (by simp)).trans y4
    have x5 := (World.cell?_setCell_other W5 ⟨g5, 7, none⟩ ⟨g5, 5, none⟩ (.int .u64 ((s - 4294967296) % 18446744073709551616)) (by simp)).trans y5
    have x6 := (World.cell?_setCell_other W5 ⟨g5, 7, none⟩ ⟨g5, 6, none⟩ (.int .u64 ((s - 4294967296) % 18446744073709551616)) (by simp)).trans y6
    have x7 := World.cell?_setCell_same W5 ⟨g5, 7, none⟩ (.int .u64 ((s - 4294967296) % 18446744073709551616)) y7
    have hok : Pk.ok ⟨0, 4, 1, 0, 0, q, s, ((s - 4294967296) % 18446744073709551616)⟩ := by
      have := HS.out
      have := HM8.out
      exact ⟨by simp only; omega, by simp only; omega, by simp only; omega, by simp only; omega, by simp only; omega, by simp only; omega, by simp only; omega, by simp only; omega⟩
    have HOK := Lib.hid hok
    clear hok
    go_wp2_with fail
    refine (HE.out ⟨0, 4, 1, 0, 0, q, s, ((s - 4294967296) % 18446744073709551616)⟩ HOK.out _).mono ?_; rintro e w9 ⟨g9, c9, rfl, hg9, hp9, k9⟩
    have HB9 := Lib.hid (HBF.out.trans (k9.mono HBF.out.size))
    have HP9 := Lib.hid hp9
    have hz9 := HBF.out.size
    clear k9 hp9
    go_wp2_with fail
    go_ret
    exact ⟨⟨g9, c9, _, rfl, by omega, HP9.out, HOK.out⟩, HB9.out⟩
  · as_aux_lemma =>
    have HBF := Lib.hid (HB5.out.setCell (p := ⟨g5, 4, none⟩) hag (.int .i64 m8))
    have b4 := b4x.out
    have x0 := (World.cell?_setCell_other W5 ⟨g5, 4, none⟩ ⟨g5, 0, none⟩ (.int .i64 m8) (by simp)).trans y0
    have x1 := (World.cell?_setCell_other W5 ⟨g5, 4, none⟩ ⟨g5, 1, none⟩ (.int .i64 m8) (by simp)).trans y1
    have x2 := (World.cell?_setCell_other W5 ⟨g5, 4, none⟩ ⟨g5, 2, none⟩ (.int .i64 m8) (by simp)).trans y2
    have x3 := (World.cell?_setCell_other W5 ⟨g5, 4, none⟩ ⟨g5, 3, none⟩ (.int .i64 m8) (by simp)).trans y3
    have x4 := World.cell?_setCell_same W5 ⟨g5, 4, none⟩ (.int .i64 m8) y4
    have x5 := (World.cell?_setCell_other W5 ⟨g5, 4, none⟩ ⟨g5, 5, none⟩ (.int .i64 m8) (by simp)).trans y5
    have x6 := (World.cell?_setCell_other W5 ⟨g5, 4, none⟩ ⟨g5, 6, none⟩ (.int .i64 m8) (by simp)).trans y6
    have x7 := (World.cell?_setCell_other W5 ⟨g5, 4, none⟩ ⟨g5, 7, none⟩ (.int .i64 m8) (by simp)).trans y7
    have hok : Pk.ok ⟨0, 4, 1, 0, m8, q, s, s2⟩ := by
      have := HS.out
      have := HM8.out
      exact ⟨by simp only; omega, by simp only; omega, by simp only; omega, by simp only; omega, by simp only; omega, by simp only; omega, by simp only; omega, by simp only; omega⟩
    have HOK := Lib.hid hok
    clear hok
    go_wp2_with fail
    refine (HE.out ⟨0, 4, 1, 0, m8, q, s, s2⟩ HOK.out _).mono ?_; rintro e w9 ⟨g9, c9, rfl, hg9, hp9, k9⟩
    have HB9 := Lib.hid (HBF.out.trans (k9.mono HBF.out.size))
    have HP9 := Lib.hid hp9
    have hz9 := HBF.out.size
    clear k9 hp9
    go_wp2_with fail
    go_ret
    exact ⟨⟨g9, c9, _, rfl, by omega, HP9.out, HOK.out⟩, HB9.out⟩
  · as_aux_lemma =>
    have HBF := Lib.hid (HB5.out.setCell (p := ⟨g5, 3, none⟩) hag (.int .i64 m8))
    have b4 := b4x.out
    have x0 := (World.cell?_setCell_other W5 ⟨g5, 3, none⟩ ⟨g5, 0, none⟩ (.int .i64 m8) (by simp)).trans y0
    have x1 := (World.cell?_setCell_other W5 ⟨g5, 3, none⟩ ⟨g5, 1, none⟩ (.int .i64 m8) (by simp)).trans y1
    have x2 := (World.cell?_setCell_other W5 ⟨g5, 3, none⟩ ⟨g5, 2, none⟩ (.int .i64 m8) (by simp)).trans y2
    have x3 := World.cell?_setCell_same W5 ⟨g5, 3, none⟩ (.int .i64 m8) y3
    have x4 := (World.cell?_setCell_other W5 ⟨g5, 3, none⟩ ⟨g5, 4, none⟩ (.int .i64 m8) (by simp)).trans y4
    have x5 := (World.cell?_setCell_other W5 ⟨g5, 3, none⟩ ⟨g5, 5, none⟩ (.int .i64 m8) (by simp)).trans y5
    have x6 := (World.cell?_setCell_other W5 ⟨g5, 3, none⟩ ⟨g5, 6, none⟩ (.int .i64 m8) (by simp)).trans y6
    have x7 := (World.cell?_setCell_other W5 ⟨g5, 3, none⟩ ⟨g5, 7, none⟩ (.int .i64 m8) (by simp)).trans y7
    have hok : Pk.ok ⟨0, 4, 1, m8, 0, q, s, s2⟩ := by
      have := HS.out
      have := HM8.out
      exact ⟨by simp only; omega, by simp only; omega, by simp only; omega, by simp only; omega, by simp only; omega, by simp only; omega, by simp only; omega, by simp only; omega⟩
    have HOK := Lib.hid hok
    clear hok
    go_wp2_with fail
    refine (HE.out ⟨0, 4, 1, m8, 0, q, s, s2⟩ HOK.out _).mono ?_; rintro e w9 ⟨g9, c9, rfl, hg9, hp9, k9⟩
    have HB9 := Lib.hid (HBF.out.trans (k9.mono HBF.out.size))
    have HP9 := Lib.hid hp9
    have hz9 := HBF.out.size
    clear k9 hp9
    go_wp2_with fail
    go_ret
    exact ⟨⟨g9, c9, _, rfl, by omega, HP9.out, HOK.out⟩, HB9.out⟩
  · as_aux_lemma =>
    have n1 : (way == 1) = false := by rw [beq_eq_false_iff_ne]; omega
    have n2 : (way == 2) = false := by rw [beq_eq_false_iff_ne]; omega
    have n3 : (way == 3) = false := by rw [beq_eq_false_iff_ne]; omega
    have n4 : (way == 4) = false := by rw [beq_eq_false_iff_ne]; omega
    have n5 : (way == 5) = false := by rw [beq_eq_false_iff_ne]; omega
    have n6 : (way == 6) = false := by rw [beq_eq_false_iff_ne]; omega
    have n7 : (way == 7) = false := by rw [beq_eq_false_iff_ne]; omega
    have n8 : (way == 8) = false := by rw [beq_eq_false_iff_ne]; omega
    have n9 : (way == 9) = false := by rw [beq_eq_false_iff_ne]; omega
    clear hw0
    have HBF := HB5
    have hok : Pk.ok ⟨0, 4, 1, 0, 0, q, s, s2⟩ := by
      have := HS.out
      have := HM8.out
      exact ⟨by simp only; omega, by simp only; omega, by simp only; omega, by simp only; omega, by simp only; omega, by simp only; omega, by simp only; omega, by simp only; omega⟩
    have HOK := Lib.hid hok
    clear hok
    go_wp2_with fail
    refine (HE.out ⟨0, 4, 1, 0, 0, q, s, s2⟩ HOK.out _).mono ?_; rintro e w9 ⟨g9, c9, rfl, hg9, hp9, k9⟩
    have HB9 := Lib.hid (HBF.out.trans (k9.mono HBF.out.size))
    have HP9 := Lib.hid hp9
    have hz9 := HBF.out.size
    clear k9 hp9
    go_wp2_with fail
    go_ret
    exact ⟨⟨g9, c9, _, rfl, by omega, HP9.out, HOK.out⟩, HB9.out⟩
end Go.Proofs.YtepdnkpmkhjlgaaGreat

/- NTP: servers that are none, bytes that are no packet, samples, the clock read: both clients (written by gen/ntedge.py). -/

namespace Go.Proofs.YtepdnkpmkhjlgaaGreat
open Go.RowKit Go.Sort

theorem r_is_no {w : World} {b bc bs : Nat} {A : Option Addr} {n cc : Nat} {x : Int} {z : Nat → Int} {N : Nat} {K : Cs} (h : Nc layR w b bc bs A n cc x z N K) (i : Int) (hi : i < 0 ∨ (N : Int) ≤ i) : Calls Tryz.prog 47 #[.pointer (some ⟨b, 0, none⟩), .int .i64 i] w fun e w' => e = .returned (.bool false) ∧ w = w' := by
  have c3 := h.c3
  by_cases h0 : i < 0
  · have t0 : decide (i ≥ 0) = false := by simp; omega
    have t1 : decide (0 ≤ i) = false := by simp; omega
    clear h hi
    go_enter Tryz.func47, Tryz.ntmps47
    go_wp2
    go_ret
    exact ⟨rfl, rfl⟩
  · have t0 : decide (i ≥ 0) = true := by simp; omega
    have t1 : decide (0 ≤ i) = true := by simp; omega
    have t2 : decide (i < (N : Int)) = false := by simp; omega
    clear h hi
    go_enter Tryz.func47, Tryz.ntmps47
    go_wp2
    go_ret
    exact ⟨rfl, rfl⟩
theorem r_ask_no {w : World} {b bc bs : Nat} {A : Option Addr} {n cc : Nat} {x : Int} {z : Nat → Int} {N : Nat} {K : Cs} (h : Nc layR w b bc bs A n cc x z N K) (i count : Int) (hi : i < 0 ∨ (N : Int) ≤ i) :
    Calls Tryz.prog 28 #[.pointer (some ⟨b, 0, none⟩), .int .i64 i, .int .i64 count] w fun e w' => e = .returned (.tuple #[.slice none 0 0, .int .i64 1]) ∧ w = w' := by
  have HH := Lib.hid (r_is_no h i hi)
  go_enter Tryz.func28, Tryz.ntmps28
  go_wp2_with fail
  refine HH.out.mono ?_; rintro e w' ⟨rfl, rfl⟩
  go_wp2_with fail
  go_ret2
  exact ⟨rfl, rfl⟩
set_option maxRecDepth 100000 in
theorem ntp_hear_no {w : World} {b bc bs : Nat} {A : Option Addr} {n cc : Nat} {x : Int} {z : Nat → Int} {N : Nat} {K : Cs} (h : Nc layP w b bc bs A n cc x z N K) (i count : Int) (bv : Value) (hi : i < 0 ∨ (N : Int) ≤ i) :
    Calls Tryz.prog 17 #[.pointer (some ⟨b, 0, none⟩), .int .i64 i, .int .i64 count, bv] w fun e w' => e = .returned (.int .i64 1) ∧ w = w' := by
  have HH := Lib.hid (ntp_has_no h i hi)
  go_enter Tryz.func17, Tryz.ntmps17
  go_wp2_with fail
  refine HH.out.mono ?_; rintro e w' ⟨rfl, rfl⟩
  go_wp2_with fail
  go_ret
  exact ⟨rfl, rfl⟩
set_option maxRecDepth 100000 in
theorem ntp_hear_er {w : World} {b bc bs : Nat} {A : Option Addr} {n cc : Nat} {x : Int} {z : Nat → Int} {N : Nat} {K : Cs} (h : Nc layP w b bc bs A n cc x z N K) (i : Nat) (hi : i < N) (count er : Int) (bv : Value) (h0 : er ≠ 0) (hdec : Calls Tryz.prog 39 #[bv] w fun e w' => e = .returned (.tuple #[pkV 0 0 0 0 0 0 0 0, .int .i64 er]) ∧ Below w.heap.size w w') :
    Calls Tryz.prog 17 #[.pointer (some ⟨b, 0, none⟩), .int .i64 i, .int .i64 count, bv] w fun e w' => e = .returned (.int .i64 er) ∧ Below w.heap.size w w' := by
  have HH := Lib.hid (ntp_has h i hi)
  have HD := Lib.hid hdec
  have t0 : (er != 0) = true := by simpa using h0
  clear hdec h h0
  go_enter Tryz.func17, Tryz.ntmps17
  go_wp2_with fail
  refine HH.out.mono ?_; rintro e w' ⟨rfl, rfl⟩
  go_wp2_with fail
  refine HD.out.mono ?_; rintro e w1 ⟨rfl, k1⟩
  have HB := Lib.hid (k1.alloc k1.size (.cells #[.int .i64 0, .int .i64 0, .int .i64 0, .int .i64 0, .int .i64 0, .int .u64 0, .int .u64 0, .int .u64 0] 93))
  clear k1
  go_wp2_with fail
  go_ret
  exact ⟨rfl, HB.out⟩
set_option maxRecDepth 100000 in
theorem r_hear_no {w : World} {b bc bs : Nat} {A : Option Addr} {n cc : Nat} {x : Int} {z : Nat → Int} {N : Nat} {K : Cs} (h : Nc layR w b bc bs A n cc x z N K) (i count : Int) (bv : Value) (hi : i < 0 ∨ (N : Int) ≤ i) :
    Calls Tryz.prog 20 #[.pointer (some ⟨b, 0, none⟩), .int .i64 i, .int .i64 count, bv] w fun e w' => e = .returned (.int .i64 1) ∧ w = w' := by
  have HH := Lib.hid (r_is_no h i hi)
  go_enter Tryz.func20, Tryz.ntmps20
  go_wp2_with fail
  refine HH.out.mono ?_; rintro e w' ⟨rfl, rfl⟩
  go_wp2_with fail
  go_ret
  exact ⟨rfl, rfl⟩
set_option maxRecDepth 100000 in
theorem r_hear_er {w : World} {b bc bs : Nat} {A : Option Addr} {n cc : Nat} {x : Int} {z : Nat → Int} {N : Nat} {K : Cs} (h : Nc layR w b bc bs A n cc x z N K) (i : Nat) (hi : i < N) (count er : Int) (bv : Value) (h0 : er ≠ 0) (hdec : Calls Tryz.prog 29 #[bv] w fun e w' => e = .returned (.tuple #[pkV 0 0 0 0 0 0 0 0, .int .i64 er]) ∧ Below w.heap.size w w') :
    Calls Tryz.prog 20 #[.pointer (some ⟨b, 0, none⟩), .int .i64 i, .int .i64 count, bv] w fun e w' => e = .returned (.int .i64 er) ∧ Below w.heap.size w w' := by
  have HH := Lib.hid (r_is h i hi)
  have HD := Lib.hid hdec
  have t0 : (er != 0) = true := by simpa using h0
  clear hdec h h0
  go_enter Tryz.func20, Tryz.ntmps20
  go_wp2_with fail
  refine HH.out.mono ?_; rintro e w' ⟨rfl, rfl⟩
  go_wp2_with fail
  refine HD.out.mono ?_; rintro e w1 ⟨rfl, k1⟩
  have HB := Lib.hid (k1.alloc k1.size (.cells #[.int .i64 0, .int .i64 0, .int .i64 0, .int .i64 0, .int .i64 0, .int .u64 0, .int .u64 0, .int .u64 0] 53))
  clear k1
  go_wp2_with fail
  go_ret
  exact ⟨rfl, HB.out⟩
/-- What bytes tell: a packet, or an error, in both. -/
def DecIs (w : World) (bv : Value) (p : Option Pk) (er : Int) : Prop := match p with
  | some p => p.ok ∧ (Calls Tryz.prog 39 #[bv] w fun e w' => e = .returned (.tuple #[pkVal p, .int .i64 0]) ∧ Below w.heap.size w w') ∧ (Calls Tryz.prog 29 #[bv] w fun e w' => e = .returned (.tuple #[pkVal p, .int .i64 0]) ∧ Below w.heap.size w w')
  | none => er ≠ 0 ∧ (Calls Tryz.prog 39 #[bv] w fun e w' => e = .returned (.tuple #[pkV 0 0 0 0 0 0 0 0, .int .i64 er]) ∧ Below w.heap.size w w') ∧ (Calls Tryz.prog 29 #[bv] w fun e w' => e = .returned (.tuple #[pkV 0 0 0 0 0 0 0 0, .int .i64 er]) ∧ Below w.heap.size w w')
/-- Hear of any bytes, of any server. -/
noncomputable def hearAP (z : Nat → Int) (n : Nat) (x : Int) (N : Nat) (K : Cs) (i count : Int) (p : Option Pk) (er : Int) : Int × Cs :=
  if i < 0 ∨ (N : Int) ≤ i then (1, K) else match p with
    | some p => hearK rstP z n x N K i.toNat count p
    | none => (er, K)
theorem ntp_hear_any {w : World} {b bc bs : Nat} {A : Option Addr} {n cc : Nat} {x : Int} {z : Nat → Int} {N : Nat} {K : Cs} (h : Nc layP w b bc bs A n cc x z N K) (hK : K.Ok N) (hN : N ≤ 8) (i count : Int) (hc : count ≤ 9223372036854775807) (bv : Value) (p : Option Pk) (er : Int) (hd : DecIs w bv p er) :
    Calls Tryz.prog 17 #[.pointer (some ⟨b, 0, none⟩), .int .i64 i, .int .i64 count, bv] w fun e w' => e = .returned (.int .i64 (hearAP z n x N K i count p er).1) ∧ Nc layP w' b bc bs A n cc x z N (hearAP z n x N K i count p er).2 ∧ But (Ft b bc bs) w w' := by
  by_cases hi : i < 0 ∨ (N : Int) ≤ i
  · unfold hearAP
    rw [if_pos hi]
    refine (ntp_hear_no h i count bv hi).mono ?_
    rintro e w' ⟨rfl, rfl⟩
    exact ⟨rfl, h, But.refl _ _⟩
  · obtain ⟨k, rfl⟩ := Int.eq_ofNat_of_zero_le (show 0 ≤ i by omega)
    have hk : k < N := by omega
    unfold hearAP
    rw [if_neg hi]
    cases p with
    | some p => exact ntp_hear_p h hK hN k hk count hc bv p hd.1 hd.2.1
    | none =>
      refine (ntp_hear_er h k hk count er bv hd.1 hd.2.1).mono ?_
      rintro e w' ⟨rfl, kb⟩
      exact ⟨rfl, h.below kb, But.of_below kb⟩
/-- Hear of any bytes, of any server. -/
noncomputable def hearAR (z : Nat → Int) (n : Nat) (x : Int) (N : Nat) (K : Cs) (i count : Int) (p : Option Pk) (er : Int) : Int × Cs :=
  if i < 0 ∨ (N : Int) ≤ i then (1, K) else match p with
    | some p => hearK rstR z n x N K i.toNat count p
    | none => (er, K)
theorem r_hear_any {w : World} {b bc bs : Nat} {A : Option Addr} {n cc : Nat} {x : Int} {z : Nat → Int} {N : Nat} {K : Cs} (h : Nc layR w b bc bs A n cc x z N K) (hK : K.Ok N) (hN : N ≤ 8) (i count : Int) (hc : count ≤ 9223372036854775807) (bv : Value) (p : Option Pk) (er : Int) (hd : DecIs w bv p er) :
    Calls Tryz.prog 20 #[.pointer (some ⟨b, 0, none⟩), .int .i64 i, .int .i64 count, bv] w fun e w' => e = .returned (.int .i64 (hearAR z n x N K i count p er).1) ∧ Nc layR w' b bc bs A n cc x z N (hearAR z n x N K i count p er).2 ∧ But (Ft b bc bs) w w' := by
  by_cases hi : i < 0 ∨ (N : Int) ≤ i
  · unfold hearAR
    rw [if_pos hi]
    refine (r_hear_no h i count bv hi).mono ?_
    rintro e w' ⟨rfl, rfl⟩
    exact ⟨rfl, h, But.refl _ _⟩
  · obtain ⟨k, rfl⟩ := Int.eq_ofNat_of_zero_le (show 0 ≤ i by omega)
    have hk : k < N := by omega
    unfold hearAR
    rw [if_neg hi]
    cases p with
    | some p => exact r_hear_p h hK hN k hk count hc bv p hd.1 hd.2.2
    | none =>
      refine (r_hear_er h k hk count er bv hd.1 hd.2.2).mono ?_
      rintro e w' ⟨rfl, kb⟩
      exact ⟨rfl, h.below kb, But.of_below kb⟩
theorem decIs_pk {w : World} {g cap : Nat} {p : Pk} (h : PkAt w g cap p) (hp : p.ok) : DecIs w (.slice (some ⟨g, 0, none⟩) 48 cap) (some p) 0 := ⟨hp, dec_of h hp, decR_of h hp⟩
theorem decOk_pk {f : Nat → Int} (hb : ∀ j, j < 48 → 0 ≤ f j ∧ f j ≤ 255) (h : decOk f = true) : Pk.ok ⟨dL f, dM f, f 1, dD f, dR f, dO f, dV f, dT f⟩ := by
  have b1 := hb 1 (by omega)
  have b0 := hb 0 (by omega)
  have nD : 0 ≤ dD f ∧ dD f < 4294967296 := numK_bd _ 4 (fun j hj => hb (4 + j) (by omega))
  have nR : 0 ≤ dR f ∧ dR f < 4294967296 := numK_bd _ 4 (fun j hj => hb (8 + j) (by omega))
  have nO : 0 ≤ dO f ∧ dO f < 18446744073709551616 := numK_bd _ 8 (fun j hj => hb (24 + j) (by omega))
  have nV : 0 ≤ dV f ∧ dV f < 18446744073709551616 := numK_bd _ 8 (fun j hj => hb (32 + j) (by omega))
  have nT : 0 ≤ dT f ∧ dT f < 18446744073709551616 := numK_bd _ 8 (fun j hj => hb (40 + j) (by omega))
  unfold decOk at h
  rw [Bool.and_eq_true] at h
  have b := isP_bd h.1
  generalize dL f = l at *
  generalize dM f = m at *
  generalize dD f = d at *
  generalize dR f = r at *
  exact ⟨by simp only; omega, by simp only; omega, b1, by simp only; omega, by simp only; omega, nO, nV, nT⟩
/-- Any bytes tell the same in both, wherever they lie. -/
theorem decIs_any (n : Nat) (f : Nat → Int) (hb : ∀ j, j < n → 0 ≤ f j ∧ f j ≤ 255) (hn : n ≤ 1000) : ∃ p er, ∀ (w : World) (A : Option Addr) (c : Nat), BytesAt w A n f → n ≤ c → DecIs w (.slice A n c) p er := by
  have hml : n ≤ maxLen := by unfold maxLen; omega
  by_cases h : n = 48
  · subst h
    by_cases hok : decOk f = true
    · refine ⟨some ⟨dL f, dM f, f 1, dD f, dR f, dO f, dV f, dT f⟩, 0, fun w A c hB hc => ?_⟩
      obtain ⟨B, O, rfl, hB, hcell⟩ := hB (by omega)
      refine ⟨decOk_pk hb hok, (pk_dec B O c f w hB hcell hb hc).mono ?_, (ref6_dec B O c 48 rfl f w hB hcell hb hc).mono ?_⟩
      · rintro e w' ⟨q1, _, q3⟩; exact ⟨q1 hok, q3⟩
      · rintro e w' ⟨q1, _, q3⟩; exact ⟨q1 hok, q3⟩
    · have hok : decOk f = false := by simpa using hok
      refine ⟨none, 3, fun w A c hB hc => ?_⟩
      obtain ⟨B, O, rfl, hB, hcell⟩ := hB (by omega)
      refine ⟨by decide, (pk_dec B O c f w hB hcell hb hc).mono ?_, (ref6_dec B O c 48 rfl f w hB hcell hb hc).mono ?_⟩
      · rintro e w' ⟨_, q2, q3⟩; exact ⟨q2 hok, q3⟩
      · rintro e w' ⟨_, q2, q3⟩; exact ⟨q2 hok, q3⟩
  · exact ⟨none, if n < 48 then 2 else 5, fun w A c _ _ => ⟨by split <;> decide, pk_dec_len A n c w hml h, ref6_dec_len A n c w hml h⟩⟩
/-- What Sample tells, the code's. -/
def smpA (N : Nat) (K : Cs) (i : Int) : Int × Int × Bool := if i < 0 ∨ (N : Int) ≤ i then (0, 0, false) else if (K.S i.toNat).has = false then (0, 0, false) else ((K.S i.toNat).lo, (K.S i.toNat).hi, true)
/-- The reference's. -/
def smpB (N : Nat) (K : Cs) (i : Int) : Int × Int × Bool := if i < 0 ∨ (N : Int) ≤ i then (0, 0, false) else ((K.S i.toNat).lo, (K.S i.toNat).hi, (K.S i.toNat).has)
def SmpTold (w : World) (r : Int × Int × Bool) (e : Ending) (w' : World) : Prop := e = .returned (.tuple #[.agg #[.int .i64 r.1, .int .i64 r.2.1], .bool r.2.2]) ∧ Below w.heap.size w w'
set_option maxRecDepth 100000 in
theorem ntp_smp {w : World} {b bc bs : Nat} {A : Option Addr} {n cc : Nat} {x : Int} {z : Nat → Int} {N : Nat} {K : Cs} (h : Nc layP w b bc bs A n cc x z N K) (i : Int) : Calls Tryz.prog 23 #[.pointer (some ⟨b, 0, none⟩), .int .i64 i] w (SmpTold w (smpA N K i)) := by
  have X := Ints2.new w 0 0 67
  have kk : Below w.heap.size w (w.alloc (.cells #[.int .i64 0, .int .i64 0] 67)) := by (repeat' (first | (with_reducible exact Below.refl _ _) | (with_reducible assumption) | (with_reducible refine Below.trans ?_ (Below.mono (by with_reducible assumption) ?_)) | (with_reducible refine Below.alloc ?_ ?_ _) | (with_reducible refine Below.setCell ?_ ?_ _) | (with_reducible refine below_drewN ?_ _) | (with_reducible refine Below.drew ?_) | go_size))
  have HB := Lib.hid kk
  have h1 := h.below kk
  by_cases hi : i < 0 ∨ (N : Int) ≤ i
  · have HX := Lib.hid (And.intro X.c0 X.c1)
    have HH := Lib.hid (ntp_has_no h1 i hi)
    unfold smpA
    rw [if_pos hi]
    clear X kk h1 h hi
    go_enter Tryz.func23, Tryz.ntmps23
    go_wp2_with fail
    refine HH.out.mono ?_; rintro e w' ⟨rfl, rfl⟩
    go_wp2_with fail
    have j0 := HX.out.1
    have j1 := HX.out.2
    refine bodyPost_ret (v := .tuple #[.agg #[.int .i64 0, .int .i64 0], .bool false]) (by simp [results, Tryz.results23, go_sem, j0, j1]) rfl ⟨rfl, HB.out⟩
  · obtain ⟨k, rfl⟩ := Int.eq_ofNat_of_zero_le (show 0 ≤ i by omega)
    have hk : k < N := by omega
    have HH := Lib.hid (ntp_has h1 k hk)
    have c3 := h1.c3
    obtain ⟨_, _, x2, _, x4, x5⟩ := h1.six k hk
    have li : (k : Int) < (N : Int) := by omega
    unfold smpA
    rw [if_neg hi]
    by_cases hh : (K.S k).has = false
    · have HX := Lib.hid (And.intro X.c0 X.c1)
      rw [if_pos (by simpa using hh)]
      rw [hh] at x2
      clear X kk h1 h hi hh x4 x5
      go_enter Tryz.func23, Tryz.ntmps23
      go_wp2_with fail
      refine HH.out.mono ?_; rintro e w' ⟨rfl, rfl⟩
      go_wp2_with fail
      have j0 := HX.out.1
      have j1 := HX.out.2
      refine bodyPost_ret (v := .tuple #[.agg #[.int .i64 0, .int .i64 0], .bool false]) (by simp [results, Tryz.results23, go_sem, j0, j1]) rfl ⟨rfl, HB.out⟩
    · rw [if_neg (by simpa using hh)]
      have hh : (K.S k).has = true := by simpa using hh
      rw [hh] at x2
      simp only [Int.toNat_natCast]
      generalize (K.S k).lo = lo at *
      generalize (K.S k).hi = up at *
      have J := Ints2.new w lo up 67
      have HX := Lib.hid (And.intro J.c0 J.c1)
      have HB2 : Hid (Below w.heap.size w (w.alloc (.cells #[.int .i64 lo, .int .i64 up] 67))) := Lib.hid ((Below.refl _ _).alloc (Nat.le_refl _) _)
      obtain ⟨i0, i1, f0, f1, il⟩ := X
      clear kk h1 h hi hh J
      go_enter Tryz.func23, Tryz.ntmps23
      go_wp2_with fail
      refine HH.out.mono ?_; rintro e w' ⟨rfl, rfl⟩
      go_wp2_with fail
      have j0 := HX.out.1
      have j1 := HX.out.2
      refine bodyPost_ret (v := .tuple #[.agg #[.int .i64 lo, .int .i64 up], .bool true]) (by simp [results, Tryz.results23, go_sem, j0, j1]) rfl ⟨rfl, HB2.out⟩
set_option maxRecDepth 100000 in
theorem r_smp {w : World} {b bc bs : Nat} {A : Option Addr} {n cc : Nat} {x : Int} {z : Nat → Int} {N : Nat} {K : Cs} (h : Nc layR w b bc bs A n cc x z N K) (i : Int) : Calls Tryz.prog 34 #[.pointer (some ⟨b, 0, none⟩), .int .i64 i] w (SmpTold w (smpB N K i)) := by
  have X := Ints2.new w 0 0 67
  have kk : Below w.heap.size w (w.alloc (.cells #[.int .i64 0, .int .i64 0] 67)) := by (repeat' (first | (with_reducible exact Below.refl _ _) | (with_reducible assumption) | (with_reducible refine Below.trans ?_ (Below.mono (by with_reducible assumption) ?_)) | (with_reducible refine Below.alloc ?_ ?_ _) | (with_reducible refine Below.setCell ?_ ?_ _) | (with_reducible refine below_drewN ?_ _) | (with_reducible refine Below.drew ?_) | go_size))
  have HB := Lib.hid kk
  have h1 := h.below kk
  have lb := h.sl
  have lbb := h.lt
  by_cases hi : i < 0 ∨ (N : Int) ≤ i
  · have J := Ints2.new w 0 0 67
    have HX := Lib.hid (And.intro J.c0 J.c1)
    have HB2 := HB
    have HH := Lib.hid (r_is_no h1 i hi)
    unfold smpB
    rw [if_pos hi]
    obtain ⟨i0, i1, f0, f1, il⟩ := X
    clear kk h1 h hi J
    go_enter Tryz.func34, Tryz.ntmps34
    go_wp2_with fail
    refine HH.out.mono ?_; rintro e w' ⟨rfl, rfl⟩
    go_wp2_with fail
    have j0 := HX.out.1
    have j1 := HX.out.2
    refine bodyPost_ret (v := .tuple #[.agg #[.int .i64 0, .int .i64 0], .bool false]) (by simp [results, Tryz.results34, go_sem, j0, j1]) rfl ⟨rfl, HB2.out⟩
  · obtain ⟨k, rfl⟩ := Int.eq_ofNat_of_zero_le (show 0 ≤ i by omega)
    have hk : k < N := by omega
    have HH := Lib.hid (r_is h1 k hk)
    have c3 := h1.c3
    obtain ⟨_, _, x2, x3, x4, _⟩ := h1.sixR k hk
    have c3' := h.c3
    obtain ⟨_, _, v2, v3, v4, _⟩ := h.sixR k hk
    have li : (k : Int) < (N : Int) := by omega
    unfold smpB
    rw [if_neg hi]
    simp only [Int.toNat_natCast]
    generalize (K.S k).lo = lo at *
    generalize (K.S k).hi = up at *
    generalize (K.S k).has = has at *
    have J := Ints2.new w lo up 67
    have HX := Lib.hid (And.intro J.c0 J.c1)
    have HB2 : Hid (Below w.heap.size w (w.alloc (.cells #[.int .i64 lo, .int .i64 up] 67))) := Lib.hid ((Below.refl _ _).alloc (Nat.le_refl _) _)
    obtain ⟨i0, i1, f0, f1, il⟩ := X
    clear kk h1 h hi J
    go_enter Tryz.func34, Tryz.ntmps34
    go_wp2_with fail
    refine HH.out.mono ?_; rintro e w' ⟨rfl, rfl⟩
    go_wp2_with fail
    go_region
    go_wp2_with fail
    have j0 := HX.out.1
    have j1 := HX.out.2
    refine bodyPost_ret (v := .tuple #[.agg #[.int .i64 lo, .int .i64 up], .bool has]) (by simp [results, Tryz.results34, go_sem, j0, j1]) rfl ⟨rfl, HB2.out.drew⟩
end Go.Proofs.YtepdnkpmkhjlgaaGreat

/- NTP: the code's client beside the document's, in plain mathematics. -/
namespace Go.Proofs.YtepdnkpmkhjlgaaGreat
open Go.RowKit

/-- The code's client and the document's tell the same. -/
structure Rl (K R : Cs) (N : Nat) : Prop where
  c : R.c = K.c
  t : R.t = K.t
  l : R.l = K.l
  n : R.n = K.n
  syn : R.syn = K.syn
  q : ∀ i, i < N → (R.S i).q = (K.S i).q
  a : ∀ i, i < N → (R.S i).a = (K.S i).a
  has : ∀ i, i < N → (R.S i).has = (K.S i).has
  v : ∀ i, i < N → (K.S i).has = true → (R.S i).lo = (K.S i).lo ∧ (R.S i).hi = (K.S i).hi ∧ (R.S i).h = (K.S i).h
  z : ∀ i, i < N → (K.S i).has = false → (R.S i).lo = 0 ∧ (R.S i).hi = 0
theorem Rl.new (count : Int) (N : Nat) : Rl (newK count) (newK count) N := ⟨rfl, rfl, rfl, rfl, rfl, fun _ _ => rfl, fun _ _ => rfl, fun _ _ => rfl, fun _ _ h => by simp [newK] at h, fun _ _ _ => ⟨rfl, rfl⟩⟩
theorem Rl.read {K R : Cs} {N : Nat} (h : Rl K R N) (count : Int) : Rl (readK K count) (readK R count) N :=
  ⟨by simp only [readK, h.c], by simp only [readK, h.c, h.t, h.l], by simp only [readK, h.c, h.l], h.n, h.syn, h.q, h.a, h.has, h.v, h.z⟩
/-- A server is written, in both. -/
theorem Rl.upd {K R : Cs} {N : Nat} (h : Rl K R N) (i : Nat) (s s' : Srv) (hq : s'.q = s.q) (ha : s'.a = s.a) (hh : s'.has = s.has) (hv : s.has = true → s'.lo = s.lo ∧ s'.hi = s.hi ∧ s'.h = s.h) (hz : s.has = false → s'.lo = 0 ∧ s'.hi = 0) :
    Rl { K with S := updS K.S i s } { R with S := updS R.S i s' } N := by
  have e : ∀ (S : Nat → Srv) (x : Srv) (j : Nat), j = i → updS S i x j = x := fun S x j hj => by subst hj; exact updS_same _ _ _
  have e2 : ∀ (S : Nat → Srv) (x : Srv) (j : Nat), j ≠ i → updS S i x j = S j := fun S x j hj => updS_other _ _ _ hj
  refine ⟨h.c, h.t, h.l, h.n, h.syn, fun j hj => ?_, fun j hj => ?_, fun j hj => ?_, fun j hj => ?_, fun j hj => ?_⟩
  all_goals
    by_cases k : j = i
    · simp only [e _ _ _ k]
      first | exact hq | exact ha | exact hh | exact hv | exact hz
    · simp only [e2 _ _ _ k]
      first | exact h.q j hj | exact h.a j hj | exact h.has j hj | exact h.v j hj | exact h.z j hj
theorem Rl.cnt {K R : Cs} {N : Nat} (h : Rl K R N) (m : Int) : Rl { K with n := m } { R with n := m } N := ⟨h.c, h.t, h.l, rfl, h.syn, h.q, h.a, h.has, h.v, h.z⟩
theorem Rl.ask {K R : Cs} {N : Nat} (h : Rl K R N) (i : Nat) (hi : i < N) (count : Int) : Rl (askK K i count) (askK R i count) N := by
  have h2 := ((h.read count).cnt (K.n + 1)).upd i { K.S i with q := K.n + 1, a := rt K.c K.t K.l count } { R.S i with q := K.n + 1, a := rt R.c R.t R.l count } rfl (by simp only [h.c, h.t, h.l]) (h.has i hi) (h.v i hi) (h.z i hi)
  have e : askK R i count = ({ ({ readK R count with n := K.n + 1 } : Cs) with S := updS R.S i { R.S i with q := K.n + 1, a := rt R.c R.t R.l count } } : Cs) := by unfold askK; rw [h.n]
  rw [e]
  exact h2
theorem Rl.clr {K R : Cs} {N : Nat} (h : Rl K R N) (i : Nat) (hi : i < N) : Rl (clrK K i) (clrK R i) N :=
  h.upd i _ _ rfl (h.a i hi) (h.has i hi) (h.v i hi) (h.z i hi)
theorem Rl.smp {K R : Cs} {N : Nat} (h : Rl K R N) (i : Nat) (hi : i < N) (hd lo up : Int) : Rl (smpK K i hd lo up) (smpK R i hd lo up) N :=
  h.upd i _ _ (h.q i hi) (h.a i hi) rfl (fun _ => ⟨rfl, rfl, rfl⟩) (fun e => by simp at e)
theorem Rl.cand {K R : Cs} {N : Nat} (h : Rl K R N) (hd : Int) : cand R.S hd N = cand K.S hd N := by
  refine cand_congr N (fun j hj => ?_)
  have e : frB (R.S j) hd = frB (K.S j) hd := by
    unfold frB
    rw [h.has j hj]
    cases q : (K.S j).has
    · rfl
    · rw [(h.v j hj q).2.2]
  refine ⟨e, fun k => ?_⟩
  rw [e] at k
  unfold frB at k
  rw [Bool.and_eq_true] at k
  exact ⟨(h.v j hj k.1).1, (h.v j hj k.1).2.1⟩
theorem Rl.turn {K R : Cs} {N : Nat} (h : Rl K R N) (hd : Int) : Rl (turnK rstP K N hd) (turnK rstR R N hd) N := by
  unfold turnK
  rw [h.cand hd]
  split
  · exact h
  · exact ⟨h.c, by simp only [h.t], rfl, h.n, by simp only [h.syn], fun j hj => h.q j hj, fun j hj => h.a j hj, fun _ _ => rfl, fun _ _ e => by simp [rstP] at e, fun _ _ _ => ⟨rfl, rfl⟩⟩
theorem Rl.hear2 {K R : Cs} {N : Nat} (h : Rl K R N) (i : Nat) (hi : i < N) (p : Pk) (t2 t3 : Int) : (hear2 rstR N R i p t2 t3).1 = (hear2 rstP N K i p t2 t3).1 ∧ Rl (hear2 rstP N K i p t2 t3).2 (hear2 rstR N R i p t2 t3).2 N := by
  unfold Go.Proofs.YtepdnkpmkhjlgaaGreat.hear2
  rw [h.t, h.a i hi]
  split
  · exact ⟨rfl, h⟩
  split
  · exact ⟨rfl, h⟩
  · exact ⟨rfl, (h.smp i hi _ _ _).turn _⟩
theorem Rl.hear1 {K R : Cs} {N : Nat} (h : Rl K R N) (z : Nat → Int) (n : Nat) (x : Int) (i : Nat) (hi : i < N) (p : Pk) : (hear1 rstR z n x N R i p).1 = (hear1 rstP z n x N K i p).1 ∧ Rl (hear1 rstP z n x N K i p).2 (hear1 rstR z n x N R i p).2 N := by
  unfold Go.Proofs.YtepdnkpmkhjlgaaGreat.hear1
  rw [h.t]
  split
  · exact ⟨rfl, h⟩
  split
  · exact ⟨rfl, h⟩
  split
  · exact ⟨rfl, h⟩
  · exact h.hear2 i hi p _ _
theorem Rl.hearK {K R : Cs} {N : Nat} (h : Rl K R N) (z : Nat → Int) (n : Nat) (x : Int) (i : Nat) (hi : i < N) (count : Int) (p : Pk) : (hearK rstR z n x N R i count p).1 = (hearK rstP z n x N K i count p).1 ∧ Rl (hearK rstP z n x N K i count p).2 (hearK rstR z n x N R i count p).2 N := by
  unfold Go.Proofs.YtepdnkpmkhjlgaaGreat.hearK
  rw [h.q i hi]
  split
  · exact ⟨rfl, h⟩
  split
  · exact ⟨rfl, h⟩
  split
  · exact ⟨rfl, h.clr i hi⟩
  split
  · exact ⟨rfl, h.clr i hi⟩
  · exact ((h.clr i hi).read count).hear1 z n x i hi p
theorem turn_up (rs : Srv → Srv) (K : Cs) (N : Nat) (hd : Int) : (turnK rs K N hd).n = K.n ∧ K.syn ≤ (turnK rs K N hd).syn ∧ (turnK rs K N hd).syn ≤ K.syn + 1 := by
  unfold turnK
  split
  · exact ⟨rfl, by omega, by omega⟩
  · exact ⟨rfl, by simp only; omega, by simp only; omega⟩
theorem hear_up (rs : Srv → Srv) (z : Nat → Int) (n : Nat) (x : Int) (N : Nat) (K : Cs) (i : Nat) (count : Int) (p : Pk) : (hearK rs z n x N K i count p).2.n = K.n ∧ (hearK rs z n x N K i count p).2.syn ≤ K.syn + 1 := by
  unfold hearK
  split
  · exact ⟨rfl, by simp only; omega⟩
  split
  · exact ⟨rfl, by simp only; omega⟩
  split
  · exact ⟨rfl, by simp only [clrK]; omega⟩
  split
  · exact ⟨rfl, by simp only [clrK]; omega⟩
  · unfold hear1
    split
    · exact ⟨rfl, by simp only [clrK, readK]; omega⟩
    split
    · exact ⟨rfl, by simp only [clrK, readK]; omega⟩
    split
    · exact ⟨rfl, by simp only [clrK, readK]; omega⟩
    · unfold hear2
      split
      · exact ⟨rfl, by simp only [clrK, readK]; omega⟩
      split
      · exact ⟨rfl, by simp only [clrK, readK]; omega⟩
      · obtain ⟨a, _, b⟩ := turn_up rs (smpK (readK (clrK K i) count) i (readK (clrK K i) count).t _ _) N (readK (clrK K i) count).t
        exact ⟨a, b⟩
/-- Hear of any bytes, of any server, in both. -/
theorem Rl.hearA {K R : Cs} {N : Nat} (h : Rl K R N) (z : Nat → Int) (n : Nat) (x i count : Int) (p : Option Pk) (er : Int) : (hearAR z n x N R i count p er).1 = (hearAP z n x N K i count p er).1 ∧ Rl (hearAP z n x N K i count p er).2 (hearAR z n x N R i count p er).2 N := by
  unfold hearAR hearAP
  split
  · exact ⟨rfl, h⟩
  · next hi =>
    cases p with
    | none => exact ⟨rfl, h⟩
    | some p => exact h.hearK z n x i.toNat (by omega) count p
theorem hearAP_ok {K : Cs} {N : Nat} (h : K.Ok N) (hs : K.syn < 1000000000) (z : Nat → Int) (n : Nat) (x i count : Int) (hc : count ≤ 9223372036854775807) (p : Option Pk) (er : Int) : (hearAP z n x N K i count p er).2.Ok N ∧ (hearAP z n x N K i count p er).2.n = K.n ∧ (hearAP z n x N K i count p er).2.syn ≤ K.syn + 1 := by
  unfold hearAP
  split
  · exact ⟨h, rfl, by simp only; omega⟩
  · next hi =>
    cases p with
    | none => exact ⟨h, rfl, by simp only; omega⟩
    | some p => exact ⟨h.hear rstP_ok hs i.toNat (by omega) count hc p, (hear_up _ _ _ _ _ _ _ _ _).1, (hear_up _ _ _ _ _ _ _ _ _).2⟩
theorem hearAR_ok {K : Cs} {N : Nat} (h : K.Ok N) (hs : K.syn < 1000000000) (z : Nat → Int) (n : Nat) (x i count : Int) (hc : count ≤ 9223372036854775807) (p : Option Pk) (er : Int) : (hearAR z n x N K i count p er).2.Ok N := by
  unfold hearAR
  split
  · exact h
  · next hi =>
    cases p with
    | none => exact h
    | some p => exact h.hear rstR_ok hs i.toNat (by omega) count hc p
/-- Samples are told alike. -/
theorem Rl.smpA {K R : Cs} {N : Nat} (h : Rl K R N) (i : Int) : smpB N R i = smpA N K i := by
  unfold smpB Go.Proofs.YtepdnkpmkhjlgaaGreat.smpA
  split
  · rfl
  · next hi =>
    have hk : i.toNat < N := by omega
    split
    · next e => rw [h.has _ hk, e, (h.z _ hk e).1, (h.z _ hk e).2]
    · next e =>
      have e : (K.S i.toNat).has = true := by simpa using e
      rw [h.has _ hk, e, (h.v _ hk e).1, (h.v _ hk e).2.1]
end Go.Proofs.YtepdnkpmkhjlgaaGreat

/- Bytes with room behind them: roomy, stands (stage 9; texts of stage 6 turned by program). -/
namespace Go.Proofs.YtepdnkpmkhjlgaaGreat
open Go.ChangeShapes Go.WideShapes Go.ChangeAt Go.RowKit Go.Joins


theorem empty_loads6 : (∀ (ad : Addr) (w : World), (loadCellsFrom ad 0 0 #[]).run Tryz.prog w = .ok #[] w) ∧ (∀ (w : World) (p : Addr), (storeCells p []).run Tryz.prog w = .ok () w) := ⟨fun ad w => by simp [loadCellsFrom], fun w p => by simp [storeCells]⟩
theorem BytesAt.cells {w : World} {ad : Addr} {n : Nat} {f : Nat → Int} (h : BytesAt w (some ad) n f) : ∀ j u, (bytesC f n)[j]? = some u → w.cell? (ad.add j) = some u := by
  intro j u hu
  have hj : j < n := by
    rcases Nat.lt_or_ge j n with q | q
    · exact q
    · rw [List.getElem?_eq_none (by rw [bytesC_len]; exact q)] at hu; cases hu
  rw [bytesC_at f n j hj] at hu
  injection hu with hu
  subst hu
  obtain ⟨B, O, he, _, hc⟩ := h (by omega)
  injection he with he
  subst he
  rw [show (Addr.mk B O none).add j = ⟨B, O + j, none⟩ from add_plain _ _ _]
  exact hc j hj
theorem bytesC_one (f : Nat → Int) (n : Nat) : ∀ u ∈ bytesC f n, u.oneCell' = true := by
  intro u hu
  simp [bytesC] at hu
  obtain ⟨j, _, rfl⟩ := hu
  rfl
/-- The bytes, and 171 behind them. -/
def rmF (f : Nat → Int) (n j : Nat) : Int := if j < n then f j else 171
theorem rm_cells (f : Nat → Int) (n : Nat) : bytesC (rmF f n) (n + 2) = bytesC f n ++ [.int .u8 171] ++ [.int .u8 171] := by
  rw [bytesC_succ, bytesC_succ, bytesC_congr (f' := f) (fun j hj => by unfold rmF; rw [if_pos hj])]
  have e1 : rmF f n n = 171 := by unfold rmF; rw [if_neg (by omega)]
  have e2 : rmF f n (n + 1) = 171 := by unfold rmF; rw [if_neg (by omega)]
  rw [e1, e2]
theorem own_cap {w : World} {base : Nat} {e : TypeId} {size g n cap : Nat} {xs : List Value} (h : w.ownsRow base e size (.slice (some ⟨g, 0, none⟩) n cap) n xs) : n ≤ cap := by
  rcases h.2 with ⟨h, _⟩ | ⟨g', cap', cur, h, _, _, h1, _⟩
  · cases h
  · injection h with _ _ h3
    omega
set_option maxHeartbeats 2000000 in
theorem roomy_some (ad : Addr) (n c : Nat) (f : Nat → Int) (w : World) (hB : BytesAt w (some ad) n f) (hn : n ≤ 1000) :
    Calls Tryz.prog 31 #[.slice (some ad) n c] w fun e w' => ∃ g cap, e = .returned (.slice (some ⟨g, 0, none⟩) (n + 1) cap) ∧ n + 1 ≤ cap ∧ w.heap.size ≤ g ∧ BytesAt w' (some ⟨g, 0, none⟩) (n + 1) (rmF f n) ∧ Below w.heap.size w w' := by
  obtain ⟨i0, hi, hz0, hz1, hz2⟩ := info_parts u8_info
  have HW0 : Below w.heap.size w (w.alloc (.cells #[] 5)) := by (repeat' (first | (with_reducible exact Below.refl _ _) | (with_reducible assumption) | (with_reducible refine Below.trans ?_ (Below.mono (by with_reducible assumption) ?_)) | (with_reducible refine Below.alloc ?_ ?_ _) | (with_reducible refine Below.setCell ?_ ?_ _) | (with_reducible refine below_drewN ?_ _) | (with_reducible refine Below.drew ?_) | go_size))
  have hsrc := (hB.below HW0).cells
  have hni : (n : Int) ≤ 1000 := by omega
  clear hB
  go_enter Tryz.func31, Tryz.ntmps31
  go_wp2_with (first | (at_builtin; refine wpList_append_own _ rfl (.tmp 3) (.tmp 4) _ rfl w.heap.size 5 i0 _ 1 1 Tryz.underlying39 hi hz0 hz1 hz2 rfl (by decide) (.slice (some ⟨w.heap.size, 0, none⟩) 0 0) 0 [] rfl (World.ownsRow_made w #[] 0 (Nat.le_refl _) (Nat.zero_le _) rfl) ad n c (bytesC f n) rfl (by rw [bytesC_len]; omega) hsrc (bytesC_one _ _) (by unfold maxLen; omega) (by omega) (by simp) ?_; intro v1 w1 hown0 hg1 hat1; have hown1 : w1.ownsRow w.heap.size 5 1 v1 n (bytesC f n) := by simpa using hown0) | (at_builtin; refine wpList_append_lies _ rfl (.tmp 5) (.tmp 6) _ rfl w.heap.size 5 i0 _ 1 1 Tryz.underlying39 hi hz0 hz1 hz2 rfl (by decide) v1 n _ rfl (World.ownsRow.alloc hown1 _) ⟨w1.heap.size, 0, none⟩ 1 1 [.int .u8 171] rfl rfl (World.news_of_block (cs := #[.int .u8 171]) (t := 5) (fr := (0, 0)) (heap_alloc_new w1 _)) (by simp [Value.oneCell']) (by omega) (by unfold maxLen; omega) (by omega) (by have := HW0.size; have := hg1.size; simp at *; omega) _ rfl ?_; intro g2 cap2 w2 hown2 hg2 hat2 hlt2) | (at_builtin; refine wpList_append_lies _ rfl (.tmp 7) (.tmp 8) _ rfl w.heap.size 5 i0 _ 1 1 Tryz.underlying39 hi hz0 hz1 hz2 rfl (by decide) (.slice (some ⟨g2, 0, none⟩) (n + 1) cap2) (n + 1) _ rfl (World.ownsRow.alloc hown2 _) ⟨w2.heap.size, 0, none⟩ 1 1 [.int .u8 171] rfl rfl (World.news_of_block (cs := #[.int .u8 171]) (t := 5) (fr := (0, 0)) (heap_alloc_new w2 _)) (by simp [Value.oneCell']) (by omega) (by unfold maxLen; omega) (by omega) (by have := HW0.size; have := hg1.size; have := hg2.size; simp at *; omega) _ rfl ?_; intro g3 cap3 w3 hown3 hg3 hat3 hlt3; have hci : (n : Int) + 1 ≤ (cap3 : Int) := by have := own_cap hown3; omega))
  have hown : w3.ownsRow w.heap.size 5 1 (.slice (some ⟨g3, 0, none⟩) (n + 2) cap3) (n + 2) (bytesC (rmF f n) (n + 2)) := by rw [rm_cells]; exact hown3
  have HB : Below w.heap.size w w3 := by
    have h1 := HW0.grown hg1 (by simp) (fun k hk => by simp [Value.ownBlock] at hk; omega)
    have h2 := (h1.alloc h1.size (.cells #[.int .u8 171] 5)).grown hg2 (by have := h1.size; simp; omega) (fun k hk => (World.ownsRow.lt hown1 k hk).1)
    exact (h2.alloc h2.size (.cells #[.int .u8 171] 5)).grown hg3 (by have := h2.size; simp; omega) (fun k hk => (World.ownsRow.lt hown2 k hk).1)
  have hR : BytesAt w3 (some ⟨g3, 0, none⟩) (n + 1) (rmF f n) := by
    obtain ⟨A, c', he, hb⟩ := BOwn.bytes (show BOwn w.heap.size w3 _ (n + 2) (rmF f n) from hown)
    injection he with he1 _ _
    subst he1
    intro _
    obtain ⟨B, O, e, h1, h2⟩ := hb (by omega)
    exact ⟨B, O, e, h1, fun j hj => h2 j (by omega)⟩
  have hcap : n + 2 ≤ cap3 := own_cap hown3
  have hg : w.heap.size ≤ g3 := (World.ownsRow.lt hown g3 rfl).1
  have HH := Lib.hid (And.intro hR (And.intro HB hg))
  clear hown hown0 hown1 hown2 hown3 hg1 hg2 hg3 hat1 hat2 hat3 hR HB hsrc
  (try go_wp2)
  go_ret
  exact ⟨g3, cap3, rfl, by omega, HH.out.2.2, HH.out.1, HH.out.2.1⟩
set_option maxHeartbeats 2000000 in
theorem roomy_none (f : Nat → Int) (w : World) :
    Calls Tryz.prog 31 #[.slice none 0 0] w fun e w' => ∃ g cap, e = .returned (.slice (some ⟨g, 0, none⟩) (0 + 1) cap) ∧ 0 + 1 ≤ cap ∧ w.heap.size ≤ g ∧ BytesAt w' (some ⟨g, 0, none⟩) (0 + 1) (rmF f 0) ∧ Below w.heap.size w w' := by
  obtain ⟨i0, hi0, hz0, hz1, hz2⟩ := info_parts u8_info
  have HW0 : Below w.heap.size w (w.alloc (.cells #[] 5)) := by (repeat' (first | (with_reducible exact Below.refl _ _) | (with_reducible assumption) | (with_reducible refine Below.trans ?_ (Below.mono (by with_reducible assumption) ?_)) | (with_reducible refine Below.alloc ?_ ?_ _) | (with_reducible refine Below.setCell ?_ ?_ _) | (with_reducible refine below_drewN ?_ _) | (with_reducible refine Below.drew ?_) | go_size))
  have hmade := World.ownsRow_made (base := w.heap.size) (e := 5) (size := 1) w #[] 0 (Nat.le_refl _) (Nat.zero_le _) rfl
  have hld := empty_loads6.1
  have hst := empty_loads6.2
  go_enter Tryz.func31, Tryz.ntmps31
  go_wp2_with (first | (at_builtin; refine wpList_append_lies _ rfl (.tmp 5) (.tmp 6) _ rfl w.heap.size 5 i0 _ 1 1 Tryz.underlying39 hi0 hz0 hz1 hz2 rfl (by decide) (.slice (some ⟨w.heap.size, 0, none⟩) 0 0) 0 [] rfl (World.ownsRow.alloc hmade _) ⟨w.heap.size + 1, 0, none⟩ 1 1 [.int .u8 171] rfl rfl (by have q := World.news_of_block (cs := #[.int .u8 171]) (t := 5) (fr := (0, 0)) (heap_alloc_new (w.alloc (.cells #[] 5)) (.cells #[.int .u8 171] 5)); simpa using q) (by simp [Value.oneCell']) (by omega) (by unfold maxLen; omega) (by omega) (by simp; omega) _ rfl ?_; intro g2 cap2 w2 hown2 hg2 hat2 hlt2; have hz2s := hg2.size) | (at_builtin; refine wpList_append_lies _ rfl (.tmp 7) (.tmp 8) _ rfl w.heap.size 5 i0 _ 1 1 Tryz.underlying39 hi0 hz0 hz1 hz2 rfl (by decide) (.slice (some ⟨g2, 0, none⟩) (0 + 1) cap2) (0 + 1) _ rfl (World.ownsRow.alloc hown2 _) ⟨w2.heap.size, 0, none⟩ 1 1 [.int .u8 171] rfl rfl (World.news_of_block (cs := #[.int .u8 171]) (t := 5) (fr := (0, 0)) (heap_alloc_new w2 _)) (by simp [Value.oneCell']) (by omega) (by unfold maxLen; omega) (by omega) (by simp at hz2s ⊢; omega) _ rfl ?_; intro g3 cap3 w3 hown3 hg3 hat3 hlt3; have hci : (1 : Int) ≤ (cap3 : Int) := by have := own_cap hown3; omega))
  have hown : w3.ownsRow w.heap.size 5 1 (.slice (some ⟨g3, 0, none⟩) (0 + 2) cap3) (0 + 2) (bytesC (rmF f 0) (0 + 2)) := by rw [rm_cells]; exact hown3
  have HB : Below w.heap.size w w3 := by
    have h2 := (HW0.alloc HW0.size (.cells #[.int .u8 171] 5)).grown hg2 (by have := HW0.size; simp; omega) (fun k hk => by simp [Value.ownBlock] at hk; omega)
    exact (h2.alloc h2.size (.cells #[.int .u8 171] 5)).grown hg3 (by have := h2.size; simp; omega) (fun k hk => (World.ownsRow.lt hown2 k hk).1)
  have hR : BytesAt w3 (some ⟨g3, 0, none⟩) (0 + 1) (rmF f 0) := by
    obtain ⟨A, c', he, hb⟩ := BOwn.bytes (show BOwn w.heap.size w3 _ (0 + 2) (rmF f 0) from hown)
    injection he with he1 _ _
    subst he1
    intro _
    obtain ⟨B, O, e, h1, h2⟩ := hb (by omega)
    exact ⟨B, O, e, h1, fun j hj => h2 j (by omega)⟩
  have hcap : 0 + 2 ≤ cap3 := own_cap hown3
  have hg : w.heap.size ≤ g3 := (World.ownsRow.lt hown g3 rfl).1
  have HH := Lib.hid (And.intro hR (And.intro HB hg))
  clear hown hown2 hown3 hg2 hg3 hat2 hat3 HB hR hmade
  (try go_wp2)
  go_ret
  exact ⟨g3, cap3, rfl, by omega, HH.out.2.2, HH.out.1, HH.out.2.1⟩
theorem roomy9 (A : Option Addr) (n c : Nat) (f : Nat → Int) (w : World) (hB : BytesAt w A n f) (hA : A = none → n = 0 ∧ c = 0) (hn : n ≤ 1000) :
    Calls Tryz.prog 31 #[.slice A n c] w fun e w' => ∃ g cap, e = .returned (.slice (some ⟨g, 0, none⟩) (n + 1) cap) ∧ n + 1 ≤ cap ∧ w.heap.size ≤ g ∧ BytesAt w' (some ⟨g, 0, none⟩) (n + 1) (rmF f n) ∧ Below w.heap.size w w' := by
  cases A with
  | none =>
    obtain ⟨rfl, rfl⟩ := hA rfl
    exact roomy_none f w
  | some ad => exact roomy_some ad n c f w hB hn

theorem rm_eq (f : Nat → Int) (n : Nat) : eqB n (rmF f n) n f = true := by
  simp only [eqB, decide_true, Bool.true_and, eqK_iff]
  intro j hj
  unfold rmF
  rw [if_pos hj]
set_option maxHeartbeats 1000000 in
theorem stands9 (g cap : Nat) (A : Option Addr) (n c : Nat) (f : Nat → Int) (w : World) (hn : n ≤ 1000) (hcap : n + 1 ≤ cap) (h : BytesAt w (some ⟨g, 0, none⟩) (n + 1) (rmF f n)) (h' : BytesAt w A n f) :
    Calls Tryz.prog 32 #[.slice (some ⟨g, 0, none⟩) (n + 1) cap, .slice A n c] w fun e w' => e = .returned (.bool true) ∧ ∃ q, w' = w.drewN q := by
  have hs : BytesAt w (some ⟨g, 0, none⟩) n (rmF f n) := fun h0 => by
    obtain ⟨B, O, e, h1, h2⟩ := h (by omega)
    exact ⟨B, O, e, h1, fun j hj => h2 j (by omega)⟩
  obtain ⟨B, O, e, _, hc⟩ := h (by omega)
  injection e with e
  injection e with e1 e2 _
  subst e1
  subst e2
  have x0 : w.cell? ⟨g, n, none⟩ = some (.int .u8 171) := by
    have := hc n (by omega)
    rwa [Nat.zero_add, show rmF f n n = 171 from by unfold rmF; rw [if_neg (by omega)]] at this
  have CS := Lib.hid (same6 (some ⟨g, 0, none⟩) n cap (rmF f n) A n c f w (by omega) (by omega) hs h')
  rw [rm_eq] at CS
  have k1 : (n : Int) ≤ (cap : Int) := by omega
  have k2 : (n : Int) ≤ 1000 := by omega
  have X0 := Lib.hid x0
  clear hc hs h h'
  go_enter Tryz.func32, Tryz.ntmps32
  go_wp2_with fail
  refine CS.out.mono ?_; rintro e w1 ⟨rfl, nq, rfl⟩
  have x1 : (w.drewN nq).cell? ⟨g, n, none⟩ = some (.int .u8 171) := X0.out
  clear x0
  go_wp2
  go_ret
  exact ⟨rfl, nq, rfl⟩
end Go.Proofs.YtepdnkpmkhjlgaaGreat

/- NTP: the law's does, of any act (written by gen/doesa.py). -/
namespace Go.Proofs.YtepdnkpmkhjlgaaGreat
open Go.RowKit Go.Sort

/-- A pair of clients that tell the same. -/
structure Tw (w : World) (bp b bc bs : Nat) (A1 : Option Addr) (c1 : Nat) (rb rbc rbs : Nat) (A2 : Option Addr) (c2 : Nat) (ad : Addr) (n c : Nat) (x : Int) (z : Nat → Int) (N : Nat) (m0 m1 m2 : Nat) (K R : Cs) (cnt : Int) (asked when_ : Nat → Int) : Prop where
  p : Pr w bp b bc bs A1 c1 rb rbc rbs A2 c2 ad n c x z N m0 m1 m2 K R cnt asked when_
  r : Rl K R N
  ko : K.Ok N
  ro : R.Ok N
  k0 : 0 ≤ cnt
  k1 : cnt ≤ 9223372036854775807
  qa : ∀ j, j < 8 → 0 ≤ asked j ∧ asked j < 18446744073709551616
  qw : ∀ j, j < 8 → 0 ≤ when_ j ∧ when_ j ≤ 9223372036854775807
/-- What an act leaves. -/
def DoesPost (w : World) (bp b bc bs : Nat) (A1 : Option Addr) (c1 : Nat) (rb rbc rbs : Nat) (A2 : Option Addr) (c2 : Nat) (ad : Addr) (n c : Nat) (x : Int) (z : Nat → Int) (N : Nat) (m0 m1 m2 : Nat) (K : Cs) (e : Ending) (w' : World) : Prop :=
  e = .returned (.bool true) ∧ (∃ K' R' cnt' asked' when', Tw w' bp b bc bs A1 c1 rb rbc rbs A2 c2 ad n c x z N m0 m1 m2 K' R' cnt' asked' when' ∧ K'.n ≤ K.n + 1 ∧ K'.syn ≤ K.syn + 1) ∧ But (fun k => m0 ≤ k ∧ k ≤ bp) w w'
theorem BytesAt.but {w w' : World} {A : Option Addr} {n : Nat} {f : Nat → Int} {S : Nat → Prop} (h : BytesAt w A n f) (k : But S w w') (hn : 0 < n → ∀ ad, A = some ad → ¬ S ad.block) : BytesAt w' A n f := fun h0 => by
  obtain ⟨B, O, e, h1, h2⟩ := h h0
  subst e
  exact ⟨B, O, rfl, Nat.lt_of_lt_of_le h1 k.size, fun j hj => (k.cell B _ h1 (hn h0 _ rfl)).trans (h2 j hj)⟩
/-- Hear of bytes that tell the same in both. -/
theorem hear_both {b bc bs : Nat} {A1 : Option Addr} {c1 : Nat} {rb rbc rbs : Nat} {A2 : Option Addr} {c2 : Nat} {n : Nat} {x : Int} {z : Nat → Int} {N : Nat} {K R : Cs} (hr : Rl K R N) (hk : K.Ok N) (hro : R.Ok N) (hs : K.syn < 1000000000) (hN : N ≤ 8) (i count : Int) (hc : count ≤ 9223372036854775807) (p : Option Pk) (er : Int) :
    ∃ (co : Int) (K' R' : Cs), (∀ (W : World) (bv : Value), Nc layP W b bc bs A1 n c1 x z N K → DecIs W bv p er → Calls Tryz.prog 17 #[.pointer (some ⟨b, 0, none⟩), .int .i64 i, .int .i64 count, bv] W fun e w' => e = .returned (.int .i64 co) ∧ Nc layP w' b bc bs A1 n c1 x z N K' ∧ But (Ft b bc bs) W w') ∧
      (∀ (W : World) (bv : Value), Nc layR W rb rbc rbs A2 n c2 x z N R → DecIs W bv p er → Calls Tryz.prog 20 #[.pointer (some ⟨rb, 0, none⟩), .int .i64 i, .int .i64 count, bv] W fun e w' => e = .returned (.int .i64 co) ∧ Nc layR w' rb rbc rbs A2 n c2 x z N R' ∧ But (Ft rb rbc rbs) W w') ∧
      Rl K' R' N ∧ K'.Ok N ∧ R'.Ok N ∧ K'.n ≤ K.n + 1 ∧ K'.syn ≤ K.syn + 1 := by
  have h1 := hr.hearA z n x i count p er
  have h2 := hearAP_ok hk hs z n x i count hc p er
  have h3 := hearAR_ok hro (by rw [hr.syn]; exact hs) z n x i count hc p er
  refine ⟨(hearAP z n x N K i count p er).1, (hearAP z n x N K i count p er).2, (hearAR z n x N R i count p er).2, fun W bv hp hd => ntp_hear_any hp hk hN i count hc bv p er hd, fun W bv hp hd => ?_, h1.2, h2.1, h3, by omega, h2.2.2⟩
  have := r_hear_any hp hro hN i count hc bv p er hd
  rw [h1.1] at this
  exact this
theorem rm_head {w : World} {g n : Nat} {f : Nat → Int} (h : BytesAt w (some ⟨g, 0, none⟩) (n + 1) (rmF f n)) : BytesAt w (some ⟨g, 0, none⟩) n f := fun _ => by
  obtain ⟨B, O, e, h1, h2⟩ := h (by omega)
  refine ⟨B, O, e, h1, fun j hj => ?_⟩
  have := h2 j (by omega)
  rwa [show rmF f n j = f j from by unfold rmF; rw [if_pos hj]] at this
end Go.Proofs.YtepdnkpmkhjlgaaGreat

