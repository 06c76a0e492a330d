/- Stage 9: NtpRefuses: an answer that does not know, is from nobody who may know, or tells a day that the table does not know, turns nothing: for every two numbers. -/
import Derived.Test.YtepdnkpmkhjlgaaGreatNtAns
set_option linter.unusedSimpArgs false
set_option linter.unusedVariables false
namespace Go.Proofs.YtepdnkpmkhjlgaaGreat
open Go.ChangeShapes Go.WideShapes Go.ChangeAt Go.RowKit Go.Joins Go.Sort

theorem ref9_out (way ahead : Int) (w : World) (h : ahead < 0 ∨ (0 ≤ ahead ∧ 2305843009213693952 < ahead)) :
    Calls Tryz.prog 6 #[.int .i64 way, .int .i64 ahead] w fun e w' => e = .returned (.bool true) ∧ Below w.heap.size w w' := by
  have HK := Lib.hid (known9 w)
  have hcs : decide (ahead < 0) = true ∨ (decide (ahead < 0) = false ∧ decide (ahead > 2305843009213693952) = true) := by
    simp only [decide_eq_true_eq, decide_eq_false_iff_not]
    omega
  clear h
  rcases hcs with t1 | ⟨t1, t2⟩
  all_goals
    go_enter Tryz.func6, Tryz.ntmps6
    go_wp2_with (go_at_call 12; refine HK.out.mono ?_; rintro e w9 ⟨rfl, k9⟩)
    go_ret
    exact ⟨rfl, k9⟩
theorem ntp_sample_no {w : World} {b bc bs : Nat} {A : Option Addr} {n cc : Nat} {x : Int} {z : Nat → Int} {N : Nat} {K : Cs} (h : Nc layP w b bc bs A n cc x z N K) (i : Nat) (hi : i < N) (hh : (K.S i).has = false) :
    Calls Tryz.prog 23 #[.pointer (some ⟨b, 0, none⟩), .int .i64 i] w fun e w' => e = .returned (.tuple #[.agg #[.int .i64 0, .int .i64 0], .bool false]) ∧ Below w.heap.size w w' := by
  have X := Ints2.new w 0 0 67
  have HX := Lib.hid (And.intro X.c0 X.c1)
  have kk : Below w.heap.size w (w.alloc (.cells #[.int .i64 0, .int .i64 0] 67)) := by (repeat' (first | (with_reducible exact Below.refl _ _) | (with_reducible assumption) | (with_reducible refine Below.trans ?_ (Below.mono (by with_reducible assumption) ?_)) | (with_reducible refine Below.alloc ?_ ?_ _) | (with_reducible refine Below.setCell ?_ ?_ _) | (with_reducible refine below_drewN ?_ _) | (with_reducible refine Below.drew ?_) | go_size))
  have HB := Lib.hid kk
  have h1 := h.below kk
  have HH := Lib.hid (ntp_has h1 i hi)
  have c3 := h1.c3
  have x2 := (h1.six i hi).2.2.1
  rw [hh] at x2
  have li : (i : Int) < (N : Int) := by omega
  clear X kk h1 h hh
  go_enter Tryz.func23, Tryz.ntmps23
  go_wp2_with fail
  refine HH.out.mono ?_; rintro e w' ⟨rfl, rfl⟩
  go_wp2_with fail
  have j0 := HX.out.1
  have j1 := HX.out.2
  refine bodyPost_ret (v := .tuple #[.agg #[.int .i64 0, .int .i64 0], .bool false]) (by simp [results, Tryz.results23, go_sem, j0, j1]) rfl ⟨rfl, HB.out⟩
theorem offz (d : Int) : offK zt d 3 = if 17167 ≤ d then 37 else if 16617 ≤ d then 36 else 35 := by
  show (if zt 4 ≤ d then zt 5 else if zt 2 ≤ d then zt 3 else if zt 0 ≤ d then zt 1 else zt 1) = _
  rw [ite_self]
  rfl
/-- A moment that is told, in seconds. -/
theorem mom_val (s D : Int) (hD : D = -1) (s0 : 0 ≤ s) (h : (momV zt 3 21167 s D).2 = 0) : nearDay s D < 21167 ∧ (momV zt 3 21167 s D).1 = (nearT s D - 2208988800) * 1000000000 + nearN s + offK zt (nearDay s D) 3 * 1000000000 := by
  have bd := nearDay_bd s D (by omega) (by omega)
  have bn := nearNano_bd s D s0
  unfold momV at h ⊢
  by_cases h1 : dayB (nearDay s D) = false
  · rw [if_pos h1] at h; simp at h
  rw [if_neg h1] at h ⊢
  by_cases h2 : 21167 ≤ nearDay s D
  · rw [if_pos h2] at h; simp at h
  rw [if_neg h2] at h ⊢
  by_cases h3 : lenN zt 3 (nearDay s D) * 1000000000 ≤ nearNano s D
  · rw [if_pos h3] at h; simp at h
  rw [if_neg h3]
  refine ⟨by omega, ?_⟩
  have ob : 35 ≤ offK zt (nearDay s D) 3 ∧ offK zt (nearDay s D) 3 ≤ 37 := by rw [offz]; split <;> (try split) <;> omega
  show taiN zt 3 (nearDay s D) (nearNano s D) = _
  unfold taiN
  generalize offK zt (nearDay s D) 3 = o at *
  have hk : mulS o 1000000000 = o * 1000000000 := by unfold mulS; rw [if_neg (by omega), if_neg (by omega)]
  have hd : mulS (nearDay s D) 86400000000000 = nearDay s D * 86400000000000 := by unfold mulS; rw [if_neg (by omega), if_neg (by omega)]
  rw [hk, hd, addS_in (a := nearDay s D * 86400000000000) (by omega) (by omega), addS_in (by omega) (by omega)]
  unfold nearDay nearNano
  generalize nearT s D = t at *
  omega
/-- A second earlier. -/
theorem mom_less (s : Int) (s0 : 0 ≤ s) (s1 : s < 18446744073709551616) (h1 : (momV zt 3 21167 s (-1)).2 = 0) (h2 : (momV zt 3 21167 ((s - 4294967296) % 18446744073709551616) (-1)).2 = 0) : (momV zt 3 21167 ((s - 4294967296) % 18446744073709551616) (-1)).1 < (momV zt 3 21167 s (-1)).1 := by
  obtain ⟨a1, a2⟩ := mom_val s (-1) rfl s0 h1
  obtain ⟨b1, b2⟩ := mom_val ((s - 4294967296) % 18446744073709551616) (-1) rfl (by omega) h2
  rw [a2, b2]
  have e1 : (s - 4294967296) % 18446744073709551616 % 4294967296 = s % 4294967296 := by omega
  have en : nearN ((s - 4294967296) % 18446744073709551616) = nearN s := by unfold nearN; rw [e1]
  have e2 : (s - 4294967296) % 18446744073709551616 / 4294967296 = (s / 4294967296 - 1) % 4294967296 := by omega
  have et : nearT ((s - 4294967296) % 18446744073709551616) (-1) = nearT s (-1) - 1 := by
    unfold nearDay nearT at b1
    unfold nearT
    rw [e2] at b1 ⊢
    generalize s / 4294967296 = q at *
    split at b1 <;> split <;> omega
  rw [en, et, offz, offz]
  unfold nearDay
  rw [et]
  generalize nearT s (-1) = t at *
  split <;> split <;> (try split) <;> (try split) <;> omega
def rfK (c : Nat) : Cs := if c = 0 then kn1 else if c = 1 then clrK kn1 0 else readK (clrK kn1 0) 5
theorem rfK_f (c : Nat) (hc : c ≤ 2) : ((rfK c).S 0).has = false ∧ (rfK c).syn = 0 ∧ ((rfK c).c = 0 ∧ (rfK c).t = 0 ∨ (rfK c).c = 5 ∧ (rfK c).t = 5) ∧ (rfK c).l = 0 := by
  rcases (show c = 0 ∨ c = 1 ∨ c = 2 from by omega) with rfl | rfl | rfl <;> decide
/-- Whatever the way: it errs, and nothing is turned. -/
theorem refuse_k (way : Nat) (h1 : 1 ≤ way) (h7 : way ≤ 7) (s : Int) (s0 : 0 ≤ s) (s1 : s < 18446744073709551616) : ∃ (er : Int) (c : Nat), hearK rstP zt 3 21167 1 kn1 0 5 (ansP way 1 s) = (er, rfK c) ∧ er ≠ 0 ∧ c ≤ 2 := by
  have q1 : (kn1.S 0).q = 1 := kn1_q.1
  rcases (show way = 1 ∨ way = 2 ∨ way = 3 ∨ way = 4 ∨ way = 5 ∨ way = 6 ∨ way = 7 from by omega) with rfl | rfl | rfl | rfl | rfl | rfl | rfl
  · exact ⟨15, 1, by unfold hearK ansP; simp [q1, rfK], by omega, by omega⟩
  · exact ⟨15, 1, by unfold hearK ansP; simp [q1, rfK], by omega, by omega⟩
  · exact ⟨15, 1, by unfold hearK ansP; simp [q1, rfK], by omega, by omega⟩
  · exact ⟨14, 0, by unfold hearK ansP; simp [q1, rfK], by omega, by omega⟩
  · exact ⟨3, 0, by unfold hearK ansP; simp [rfK], by omega, by omega⟩
  · exact ⟨3, 1, by unfold hearK ansP; simp [q1, rfK], by omega, by omega⟩
  · have ea : ansP 7 1 s = ⟨0, 4, 1, 0, 0, 1, s, (s - 4294967296) % 18446744073709551616⟩ := rfl
    rw [ea]
    by_cases hz : s = 0 ∨ (s - 4294967296) % 18446744073709551616 = 0
    · refine ⟨3, 1, ?_, by omega, by omega⟩
      unfold hearK
      rw [if_neg (by simp), if_neg (by rw [q1]; simp), if_neg (by simp), if_pos hz]
      rfl
    · have e0 : hearK rstP zt 3 21167 1 kn1 0 5 ⟨0, 4, 1, 0, 0, 1, s, (s - 4294967296) % 18446744073709551616⟩ = hear1 rstP zt 3 21167 1 (readK (clrK kn1 0) 5) 0 ⟨0, 4, 1, 0, 0, 1, s, (s - 4294967296) % 18446744073709551616⟩ := by
        unfold hearK
        rw [if_neg (by simp), if_neg (by rw [q1]; simp), if_neg (by simp), if_neg hz]
      have et : (readK (clrK kn1 0) 5).t = 5 := by decide
      have eD : utcD zt 3 5 = -1 := by decide
      rw [e0]
      unfold hear1
      rw [et, eD, if_neg (by omega)]
      simp only
      by_cases m1 : (momV zt 3 21167 s (-1)).2 = 0
      · rw [if_neg (by simp [m1])]
        by_cases m2 : (momV zt 3 21167 ((s - 4294967296) % 18446744073709551616) (-1)).2 = 0
        · rw [if_neg (by simp [m2])]
          refine ⟨12, 2, ?_, by omega, by omega⟩
          unfold hear2
          rw [if_pos (mom_less s s0 s1 m1 m2)]
          rfl
        · rw [if_pos (by simp [m2])]
          exact ⟨_, 2, rfl, m2, by omega⟩
      · rw [if_pos (by simp [m1])]
        exact ⟨_, 2, rfl, m1, by omega⟩
theorem way_bd (way : Int) : ∃ k : Nat, 1 ≤ k ∧ k ≤ 7 ∧ IntKind.i64.wrap (1 + (bits .and .i64 way 1023).tmod 7) = (k : Int) ∧ IntKind.i64.wrap (1 + bits .and .i64 way 1023 % 7) = (k : Int) ∧ 1 + (bits .and .i64 way 1023).tmod 7 = (k : Int) ∧ 1 + bits .and .i64 way 1023 % 7 = (k : Int) := by
  have b := bits_and_le way 1023 (by omega)
  have e : (bits .and .i64 way 1023).tmod 7 = bits .and .i64 way 1023 % 7 := Int.tmod_eq_emod_of_nonneg b.1
  rw [e]
  generalize bits .and .i64 way 1023 = q at *
  refine ⟨(1 + q % 7).toNat, by omega, by omega, ?_, ?_, ?_, ?_⟩
  · rw [IntWalk.i64_in _ (by omega)]
    omega
  · rw [IntWalk.i64_in _ (by omega)]
    omega
  · omega
  · omega
set_option maxRecDepth 100000 in
set_option maxHeartbeats 8000000 in
theorem ref9_in (way ahead : Int) (w : World) (a0 : 0 ≤ ahead) (a1 : ahead ≤ 2305843009213693952) :
    Calls Tryz.prog 6 #[.int .i64 way, .int .i64 ahead] w fun e w' => e = .returned (.bool true) ∧ Below w.heap.size w w' := by
  obtain ⟨k, k1, k7, hk, hk2, hk3, hk4⟩ := way_bd way
  have sb := stp_bd zt_tab ahead
  obtain ⟨er, cK, hK, hK0, hK2⟩ := refuse_k k k1 k7 (stpV zt 3 ahead) sb.1 sb.2
  obtain ⟨f1, f2, f3, f4⟩ := rfK_f cK hK2
  have HKR := Lib.hid hK
  have HF := Lib.hid (And.intro f1 (And.intro f2 (And.intro f3 f4)))
  have ter : (er != 0) = true := by simpa using hK0
  have HTB := Lib.hid (table4 w)
  have HKN := Lib.hid (fun W : World => known9 W)
  have t1 : decide (ahead < 0) = false := by simp; omega
  have t2 : decide (ahead > 2305843009213693952) = false := by simp; omega
  have HBD := Lib.hid (And.intro a0 (And.intro a1 (And.intro k1 k7)))
  have b7 := bits_and_le way 1023 (by omega)
  have hb7 : bits .and .i64 way ((1023 : Nat) : Int) = bits .and .i64 way 1023 := rfl
  rw [hb7] at b7
  have HSB := Lib.hid sb
  clear hK f1 f2 f3 f4 a0 a1 k1 k7 sb hb7 hK0
  go_enter Tryz.func6, Tryz.ntmps6
  go_wp2_with fail
  refine HTB.out.mono ?_; rintro e w1 ⟨B0, rfl, hb1, hf1⟩
  have HST := Lib.hid (law_start ⟨B0, 0, none⟩ 3 3 21167 zt 1 0 w1 hf1 zt_tab (by omega) (by omega) (by omega) (by omega))
  have HB1 := Lib.hid hb1
  clear hb1 hf1 HTB t1 t2
  go_wp2_with fail
  refine HST.out.mono ?_; rintro e w2 ⟨⟨bp, b, bc, bs, A1, c1, rb, rbc, rbs, A2, c2, m1, m2, rfl, hpr, hm1, hm2⟩, hb2⟩
  have HP2 := Lib.hid hpr
  have HB2 := Lib.hid (HB1.out.trans (hb2.mono HB1.out.size))
  have p2 := hpr.q2
  have hm0 : w.heap.size ≤ w1.heap.size := HB1.out.size
  have hr1 := hpr.r1
  have hr3 := hpr.r3
  obtain ⟨m0, hm0e⟩ : ∃ m0, w1.heap.size = m0 := ⟨_, rfl⟩
  rw [hm0e] at HP2 hm0 hm1 hr1
  have HDO := Lib.hid (law_does1 HP2.out (newK_ok 0 1 (by omega) (by omega)) (newK_ok 0 1 (by omega) (by omega)) rfl (by decide) (by omega) 0 (by omega) (by omega) (by omega))
  have lbp := hpr.ql
  clear hb2 hpr HST HB1 hm0e
  go_wp2_with fail
  refine HDO.out.mono ?_; rintro e w3 ⟨rfl, hp3, hf3⟩
  have HP3 : Hid (Pr w3 bp b bc bs A1 c1 rb rbc rbs A2 c2 ⟨B0, 0, none⟩ 3 3 21167 zt 1 m0 m1 m2 kn1 kn1 0 (updI (fun _ => 0) 0 1) (updI (fun _ => 0) 0 0)) := Lib.hid hp3
  have HB3 := Lib.hid (HB2.out.trans (hf3.below (fun k hk => by omega) HB2.out.size))
  clear hp3 hf3 HP2 HB2 HDO p2
  have HAN0 := law_answer HP3.out 0 (by omega) ahead k HBD.out.2.2.2 (by simp [updI]) HBD.out.1 (by have := HBD.out; simp [updI]; omega) (by simp [updI])
  have eT : updI (fun _ => (0 : Int)) 0 0 0 + ahead = ahead := by simp [updI]
  have eq1 : updI (fun _ => (0 : Int)) 0 1 0 = 1 := by simp [updI]
  rw [eT, eq1] at HAN0
  have HAN := Lib.hid HAN0
  clear HAN0 eT eq1
  go_wp2_with fail
  refine HAN.out.mono ?_; rintro e w4 ⟨⟨g, cap, rfl, hg, hpk⟩, k4⟩
  have HP4 := Lib.hid (HP3.out.below k4)
  have HB4 := Lib.hid (HB3.out.trans (k4.mono HB3.out.size))
  have HPK := Lib.hid hpk
  have lbp3 := HP3.out.ql
  have hgb : bp < g := by omega
  have p2 := HP4.out.q2
  clear k4 hpk HP3 HB3 HAN
  have HH1 := Lib.hid (ntp_hear_b HP4.out.P ((newK_ok 0 1 (by omega) (by omega)).ask (by decide) 0 (by omega) 0 (by omega)) (by omega) 0 (by omega) 5 (by omega) HPK.out (ansP_ok k 1 _ (by omega) HSB.out))
  rw [HKR.out] at HH1
  go_wp2_with fail
  refine HH1.out.mono ?_; rintro e w5 ⟨rfl, hn5, hf5⟩
  have HP5 := Lib.hid (HP4.out.onP hn5 hf5)
  have HB5 := Lib.hid (HB4.out.trans (hf5.below (fun k hk => by unfold Ft at hk; omega) HB4.out.size))
  have p2 := HP5.out.q2
  have HSM := Lib.hid (ntp_sample_no HP5.out.P 0 (by omega) HF.out.1)
  clear hn5 hf5 HP4 HB4 HPK HH1
  go_wp2_with fail
  refine HSM.out.mono ?_; rintro e w6 ⟨rfl, k6⟩
  have k7 := k6.alloc k6.size (.cells #[.int .i64 0, .int .i64 0] 67)
  have HP6 := Lib.hid (HP5.out.below k7)
  have HB6 := Lib.hid (HB5.out.trans (k7.mono HB5.out.size))
  have p2 := HP6.out.q2
  have c0 := HP6.out.P.c0
  have HSY := Lib.hid (ntp_synced HP6.out.P)
  rw [HF.out.2.1] at HSY
  have hI := HP6.out.P.clk
  rw [HF.out.2.2.2] at hI
  clear k6 k7 HP5 HB5 HSM
  rcases HF.out.2.2.1 with ⟨e1, e2⟩ | ⟨e1, e2⟩
  · rw [e1, e2] at hI
    have hrd := slew_read_all bc 0 0 0 5 _ hI (by unfold Ok3; omega) (by omega)
    have e5 : rt 0 0 0 5 = 5 := by decide
    rw [e5] at hrd
    have HRD := Lib.hid hrd
    clear hI hrd e1 e2 e5
    go_wp2_with (first | (go_at_call 22; refine HSY.out.mono ?_; rintro e w' ⟨rfl, rfl⟩) | (go_at_call 21; refine HRD.out.mono ?_; rintro e w7 ⟨rfl, ho7, _⟩) | (go_at_call 12; refine (HKN.out _).mono ?_; rintro e wk ⟨rfl, k9⟩))
    go_ret
    exact ⟨rfl, (HB6.out.trans (ho7.below (by omega) HB6.out.size)).trans (k9.mono (HB6.out.trans (ho7.below (by omega) HB6.out.size)).size)⟩
  · rw [e1, e2] at hI
    have HRD := Lib.hid (slew_read_old bc 5 5 0 5 _ hI (by omega))
    clear hI e1 e2
    go_wp2_with (first | (go_at_call 22; refine HSY.out.mono ?_; rintro e w' ⟨rfl, rfl⟩) | (go_at_call 21; refine HRD.out.mono ?_; rintro e w' ⟨rfl, rfl⟩) | (go_at_call 12; refine (HKN.out _).mono ?_; rintro e wk ⟨rfl, k9⟩))
    go_ret
    exact ⟨rfl, HB6.out.trans (k9.mono HB6.out.size)⟩
set_option maxRecDepth 100000 in
theorem ntpRefuses_lifted (os : Os) (started : os.Started) (H : Type) (enc : TypeId × Value → H) :
    ReturnsInHanded {} Tryz.checked os 6 .any (Rows.ntpRefusesSpec.pre6 enc Tryz.prog Tryz.f6 Rows.ntpRefusesRow.domain false) (Rows.ntpRefusesSpec.post enc Tryz.prog Tryz.f6 false true false false) := by
  refine returnsInHanded_of_change_sized (C := Tryz.checked) law_own started (by kernel_rfl) Tryz.func6
    (ChangeSpec.witness6 (enc := enc) (C := Tryz.checked) false ⟨#[], #[.int .i64 0, .int .i64 0], []⟩ 8 (by kernel_rfl) (by kernel_rfl) (by kernel_rfl) (by kernel_rfl)) ?_
  intro W base args ds gs before hval0 hW hcnd hsz0 _
  have hval : ∀ (j : Nat) t v, Tryz.f6.params[j]? = some t → args[j]? = some v → Value.okWide Tryz.prog W .any base t v := hval0
  have hsz : (DataW.weightsEach Tryz.prog (Tryz.f6.params.toList ++ Rows.ntpRefusesSpec.plain.varTypes Tryz.prog) (ds ++ gs)).all (· ≤ reachBytes) = true := hsz0
  have hW' := hW
  obtain ⟨p, q, hA0, hV, rfl, hfz, hnd⟩ := hW
  have hA : DataW.TrodAll enc Tryz.prog W 0 (fun _ => true) true Tryz.f6.params.toList args.toList ds p := hA0
  rw [Tryz.params6] at hA hval hsz
  have hsame : (Rows.ntpRefusesSpec.fn H (ds ++ gs)).results = [.lit (.bool true)] ∧ (Rows.ntpRefusesSpec.fn H (ds ++ gs)).args = ds ∧ (Rows.ntpRefusesSpec.fn H (ds ++ gs)).vars = [] → ∀ W', Below W.heap.size W W' → Rows.ntpRefusesSpec.post enc Tryz.prog Tryz.f6 false true false false W args (.bool true) W' :=
    fun h W' hb => law_post (tb := 4) hW' law_laid (by kernel_rfl) rfl Tryz.underlying4 h.1 h.2.1 rfl h.2.2 hb
  obtain ⟨v0, vs0, d0, ds0, p0, q0, hargs, rfl, rfl, h0, r0⟩ := trodAll_cons hA
  obtain ⟨v1, vs1, d1, ds1, p1, q1, rfl, rfl, rfl, h1, r1⟩ := trodAll_cons r0
  obtain ⟨rfl, rfl, rfl⟩ := trodAll_nil r1
  obtain rfl : args = #[v0, v1] := by cases args; simp_all
  obtain ⟨rfl, rfl⟩ := trodVars_none hV
  have hpost := hsame ⟨rfl, rfl, rfl⟩
  clear hsame hA0 hval0 hsz0
  obtain ⟨a0, rfl, rfl, rfl, wf0⟩ := open_int Tryz.underlying3 (hval 0 3 v0 rfl rfl) h0
  obtain ⟨a1, rfl, rfl, rfl, wf1⟩ := open_int Tryz.underlying3 (hval 1 3 v1 rfl rfl) h1
  have hw : Calls Tryz.prog 6 #[.int .i64 a0, .int .i64 a1] W fun e w' => e = .returned (.bool true) ∧ Below W.heap.size W w' := by
    by_cases h : 0 ≤ a1 ∧ a1 ≤ 2305843009213693952
    · exact ref9_in a0 a1 W h.1 h.2
    · exact ref9_out a0 a1 W (by omega)
  exact (hw).mono fun e W' ⟨he, hb⟩ => ⟨_, he, hpost W' hb⟩
theorem ntpRefuses_holds : Rows.NtpRefusesSaid :=
  OpenClaim.holds_of_wide 6 Tryz.f6 rfl rfl rfl rfl rfl rfl rfl ⟨rfl, rfl, rfl, rfl, rfl⟩ rfl rfl rfl rfl rfl (by kernel_rfl) Tryz.func6 (by kernel_rfl)
    (of_decide_eq_true (by kernel_rfl)) (by unfold Func.isWrapper; first | (rw [if_pos (by decide +kernel)]; kernel_rfl) | (rw [if_neg (by decide +kernel)]; exact ⟨rfl, rfl⟩))
    (fun os started H enc _ => ntpRefuses_lifted os started H enc)
end Go.Proofs.YtepdnkpmkhjlgaaGreat
