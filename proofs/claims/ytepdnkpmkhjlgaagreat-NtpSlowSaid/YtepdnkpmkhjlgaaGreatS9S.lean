/- Stage 9: NtpSlow: an answer that took too long is refused, and the question is answered by it all the same: for every two numbers. -/
import Derived.Test.YtepdnkpmkhjlgaaGreatM9P
set_option linter.unusedSimpArgs false
set_option linter.unusedVariables false
namespace Go.Proofs.YtepdnkpmkhjlgaaGreat
open Go.ChangeShapes Go.WideShapes Go.ChangeAt Go.RowKit Go.Joins Go.Sort

theorem slow_out (delay ahead : Int) (w : World) (h : delay < 0 ∨ (0 ≤ delay ∧ 1099511627776 < delay) ∨ (0 ≤ delay ∧ delay ≤ 1099511627776 ∧ ahead < 1125899906842624) ∨ (0 ≤ delay ∧ delay ≤ 1099511627776 ∧ 1125899906842624 ≤ ahead ∧ 1152921504606846976 < ahead)) :
    Calls Tryz.prog 9 #[.int .i64 delay, .int .i64 ahead] w fun e w' => e = .returned (.bool true) ∧ Below w.heap.size w w' := by
  have HK := Lib.hid (known9 w)
  have hcs : decide (delay < 0) = true ∨ (decide (delay < 0) = false ∧ decide (delay > 1099511627776) = true) ∨ (decide (delay < 0) = false ∧ decide (delay > 1099511627776) = false ∧ decide (ahead < 1125899906842624) = true) ∨ (decide (delay < 0) = false ∧ decide (delay > 1099511627776) = false ∧ decide (ahead < 1125899906842624) = false ∧ decide (ahead > 1152921504606846976) = true) := by
    simp only [decide_eq_true_eq, decide_eq_false_iff_not]
    omega
  clear h
  rcases hcs with t1 | ⟨t1, t2⟩ | ⟨t1, t2, t3⟩ | ⟨t1, t2, t3, t4⟩
  all_goals
    go_enter Tryz.func9, Tryz.ntmps9
    go_wp2_with (go_at_call 12; refine HK.out.mono ?_; rintro e w9 ⟨rfl, k9⟩)
    go_ret
    exact ⟨rfl, k9⟩
/-- What the first answer leaves. -/
theorem slow_k (delay ahead : Int) (d0 : 0 ≤ delay) (d1 : delay ≤ 1099511627776) (a0 : 1125899906842624 ≤ ahead) (a1 : ahead ≤ 1152921504606846976) :
    ∃ K4 : Cs, hearK rstP zt 3 21167 1 kn1 0 delay (tellP 1 ahead) = (if delay ≤ 16000000000 then 0 else 11, K4) ∧ (K4.S 0).q = 0 ∧ K4.syn = (if delay ≤ 16000000000 then 1 else 0) ∧ K4.Ok 1 := by
  have h := hear_told rstP 1 kn1 0 delay 1 ahead delay 0 kn1_q.1 (by omega) kn1_q.2.1 (by have := rt_new 0 delay d0 (by omega) (by omega); rw [Int.sub_zero] at this; exact this) (by omega) (by omega) (by omega) d0 (by omega)
  have hok : kn1.Ok 1 := (newK_ok 0 1 (by omega) (by omega)).ask (by decide) 0 (by omega) 0 (by omega)
  have ok := hok.hear (z := zt) (n := 3) (x := 21167) rstP_ok (by decide) 0 (by omega) delay (by omega) (tellP 1 ahead)
  by_cases hd : delay ≤ 16000000000
  · rw [Int.sub_zero, if_pos hd] at h
    rw [h] at ok ⊢
    simp only [if_pos hd]
    refine ⟨_, rfl, ?_, ?_, ok⟩
    · rw [turn_one rstP _ delay ((2 * ahead - 0 - delay) / 2 - (delay / 2 + 1)) ((2 * ahead - 0 - delay) / 2 + (delay / 2 + 1)) (by omega) rfl rfl rfl rfl]
      rfl
    · rw [turn_one rstP _ delay ((2 * ahead - 0 - delay) / 2 - (delay / 2 + 1)) ((2 * ahead - 0 - delay) / 2 + (delay / 2 + 1)) (by omega) rfl rfl rfl rfl]
      rfl
  · rw [Int.sub_zero, if_neg hd] at h
    rw [h] at ok ⊢
    simp only [if_neg hd]
    exact ⟨_, rfl, rfl, rfl, ok⟩
set_option maxRecDepth 100000 in
set_option maxHeartbeats 8000000 in
theorem slow_in (delay ahead : Int) (w : World) (d0 : 0 ≤ delay) (d1 : delay ≤ 1099511627776) (a0 : 1125899906842624 ≤ ahead) (a1 : ahead ≤ 1152921504606846976) :
    Calls Tryz.prog 9 #[.int .i64 delay, .int .i64 ahead] w fun e w' => e = .returned (.bool true) ∧ Below w.heap.size w w' := by
  obtain ⟨K4, hk4, hq4, hs4, ok4⟩ := slow_k delay ahead d0 d1 a0 a1
  have hcs : ∃ er sy : Int, (if delay ≤ 16000000000 then (0 : Int) else 11) = er ∧ (if delay ≤ 16000000000 then (1 : Int) else 0) = sy ∧ ((er = 0 ∧ sy = 1 ∧ decide (delay > 16000000000) = false) ∨ (er = 11 ∧ sy = 0 ∧ decide (delay > 16000000000) = true)) := by
    by_cases hd : delay ≤ 16000000000
    · exact ⟨0, 1, by rw [if_pos hd], by rw [if_pos hd], .inl ⟨rfl, rfl, by simp; omega⟩⟩
    · exact ⟨11, 0, by rw [if_neg hd], by rw [if_neg hd], .inr ⟨rfl, rfl, by simp; omega⟩⟩
  obtain ⟨er, sy, he, hs, hcs⟩ := hcs
  rw [he] at hk4
  rw [hs] at hs4
  clear he hs
  have HK4 := Lib.hid (And.intro hk4 (And.intro hq4 (And.intro hs4 ok4)))
  have HTB := Lib.hid (table4 w)
  have HKN := Lib.hid (fun W : World => known9 W)
  have t1 : decide (delay < 0) = false := by simp; omega
  have t2 : decide (delay > 1099511627776) = false := by simp; omega
  have t3 : decide (ahead < 1125899906842624) = false := by simp; omega
  have t4 : decide (ahead > 1152921504606846976) = false := by simp; omega
  have HBD := Lib.hid (And.intro d0 (And.intro d1 (And.intro a0 a1)))
  clear hk4 hq4 hs4 ok4 d0 d1 a0 a1
  rcases hcs with ⟨rfl, rfl, t5⟩ | ⟨rfl, rfl, t5⟩
  all_goals
    go_enter Tryz.func9, Tryz.ntmps9
    go_wp2_with fail
    refine HTB.out.mono ?_; rintro e w1 ⟨B0, rfl, hb1, hf1⟩
    have HST := Lib.hid (law_start ⟨B0, 0, none⟩ 3 3 21167 zt 1 0 w1 hf1 zt_tab (by omega) (by omega) (by omega) (by omega))
    have HB1 := Lib.hid hb1
    clear hb1 hf1 HTB t1 t2 t3 t4
    go_wp2_with fail
    refine HST.out.mono ?_; rintro e w2 ⟨⟨bp, b, bc, bs, A1, c1, rb, rbc, rbs, A2, c2, m1, m2, rfl, hpr, hm1, hm2⟩, hb2⟩
    have HP2 := Lib.hid hpr
    have HB2 := Lib.hid (HB1.out.trans (hb2.mono HB1.out.size))
    have p2 := hpr.q2
    have hm0 : w.heap.size ≤ w1.heap.size := HB1.out.size
    have hr1 := hpr.r1
    have hr3 := hpr.r3
    obtain ⟨m0, hm0e⟩ : ∃ m0, w1.heap.size = m0 := ⟨_, rfl⟩
    rw [hm0e] at HP2 hm0 hm1 hr1
    have HDO := Lib.hid (law_does1 HP2.out (newK_ok 0 1 (by omega) (by omega)) (newK_ok 0 1 (by omega) (by omega)) rfl (by decide) (by omega) 0 (by omega) (by omega) (by omega))
    have lbp := hpr.ql
    clear hb2 hpr HST HB1 hm0e
    go_wp2_with fail
    refine HDO.out.mono ?_; rintro e w3 ⟨rfl, hp3, hf3⟩
    have HP3 : Hid (Pr w3 bp b bc bs A1 c1 rb rbc rbs A2 c2 ⟨B0, 0, none⟩ 3 3 21167 zt 1 m0 m1 m2 kn1 kn1 0 (updI (fun _ => 0) 0 1) (updI (fun _ => 0) 0 0)) := Lib.hid hp3
    have HB3 := Lib.hid (HB2.out.trans (hf3.below (fun k hk => by omega) HB2.out.size))
    clear hp3 hf3 HP2 HB2 HDO p2
    have HTE := Lib.hid (law_tells HP3.out 0 (by omega) ahead (by have := HBD.out; omega) (by have := HBD.out; omega) (by simp [updI]))
    go_wp2_with fail
    refine HTE.out.mono ?_; rintro e w4 ⟨⟨g, cap, rfl, hg, hpk⟩, k4⟩
    have HP4 := Lib.hid (HP3.out.below k4)
    have HB4 := Lib.hid (HB3.out.trans (k4.mono HB3.out.size))
    have HPK : Hid (PkAt w4 g cap (tellP 1 ahead)) := Lib.hid hpk
    have lbp3 := HP3.out.ql
    have hgb : bp < g := by omega
    have p2 := HP4.out.q2
    clear k4 hpk HP3 HB3 HTE
    have HH1 := Lib.hid (ntp_hear_b HP4.out.P ((newK_ok 0 1 (by omega) (by omega)).ask (by decide) 0 (by omega) 0 (by omega)) (by omega) 0 (by omega) delay (by have := HBD.out; omega) HPK.out (tell_ok 1 ahead (by omega)))
    rw [HK4.out.1] at HH1
    go_wp2_with fail
    refine HH1.out.mono ?_; rintro e w5 ⟨rfl, hn5, hf5⟩
    have HP5 := Lib.hid (HP4.out.onP hn5 hf5)
    have HB5 := Lib.hid (HB4.out.trans (hf5.below (fun k hk => by unfold Ft at hk; omega) HB4.out.size))
    have HPK5 := Lib.hid (HPK.out.but hf5 (by unfold Ft; omega))
    have p2 := HP5.out.q2
    clear hn5 hf5 HP4 HB4 HPK HH1
    have HH2 := Lib.hid (ntp_hear_b HP5.out.P HK4.out.2.2.2 (by omega) 0 (by omega) delay (by have := HBD.out; omega) HPK5.out (tell_ok 1 ahead (by omega)))
    rw [hear_again rstP zt 3 21167 1 K4 0 delay (tellP 1 ahead) rfl HK4.out.2.1] at HH2
    go_wp2_with fail
    refine HH2.out.mono ?_; rintro e w6 ⟨rfl, hn6, hf6⟩
    have HP6 := Lib.hid (HP5.out.onP hn6 hf6)
    have HB6 := Lib.hid (HB5.out.trans (hf6.below (fun k hk => by unfold Ft at hk; omega) HB5.out.size))
    have p2 := HP6.out.q2
    have HSY := Lib.hid (ntp_synced HP6.out.P)
    rw [HK4.out.2.2.1] at HSY
    clear hn6 hf6 HP5 HB5 HPK5 HH2
    go_wp2_with (first | (go_at_call 22; refine HSY.out.mono ?_; rintro e w' ⟨rfl, rfl⟩) | (go_at_call 12; refine (HKN.out _).mono ?_; rintro e w9 ⟨rfl, k9⟩))
    go_ret
    exact ⟨rfl, HB6.out.trans (k9.mono HB6.out.size)⟩
set_option maxRecDepth 100000 in
theorem ntpSlow_lifted (os : Os) (started : os.Started) (H : Type) (enc : TypeId × Value → H) :
    ReturnsInHanded {} Tryz.checked os 9 .any (Rows.ntpSlowSpec.pre6 enc Tryz.prog Tryz.f9 Rows.ntpSlowRow.domain false) (Rows.ntpSlowSpec.post enc Tryz.prog Tryz.f9 false true false false) := by
  refine returnsInHanded_of_change_sized (C := Tryz.checked) law_own started (by kernel_rfl) Tryz.func9
    (ChangeSpec.witness6 (enc := enc) (C := Tryz.checked) false ⟨#[], #[.int .i64 0, .int .i64 0], []⟩ 8 (by kernel_rfl) (by kernel_rfl) (by kernel_rfl) (by kernel_rfl)) ?_
  intro W base args ds gs before hval0 hW hcnd hsz0 _
  have hval : ∀ (j : Nat) t v, Tryz.f9.params[j]? = some t → args[j]? = some v → Value.okWide Tryz.prog W .any base t v := hval0
  have hsz : (DataW.weightsEach Tryz.prog (Tryz.f9.params.toList ++ Rows.ntpSlowSpec.plain.varTypes Tryz.prog) (ds ++ gs)).all (· ≤ reachBytes) = true := hsz0
  have hW' := hW
  obtain ⟨p, q, hA0, hV, rfl, hfz, hnd⟩ := hW
  have hA : DataW.TrodAll enc Tryz.prog W 0 (fun _ => true) true Tryz.f9.params.toList args.toList ds p := hA0
  rw [Tryz.params9] at hA hval hsz
  have hsame : (Rows.ntpSlowSpec.fn H (ds ++ gs)).results = [.lit (.bool true)] ∧ (Rows.ntpSlowSpec.fn H (ds ++ gs)).args = ds ∧ (Rows.ntpSlowSpec.fn H (ds ++ gs)).vars = [] → ∀ W', Below W.heap.size W W' → Rows.ntpSlowSpec.post enc Tryz.prog Tryz.f9 false true false false W args (.bool true) W' :=
    fun h W' hb => law_post (tb := 4) hW' law_laid (by kernel_rfl) rfl Tryz.underlying4 h.1 h.2.1 rfl h.2.2 hb
  obtain ⟨v0, vs0, d0, ds0, p0, q0, hargs, rfl, rfl, h0, r0⟩ := trodAll_cons hA
  obtain ⟨v1, vs1, d1, ds1, p1, q1, rfl, rfl, rfl, h1, r1⟩ := trodAll_cons r0
  obtain ⟨rfl, rfl, rfl⟩ := trodAll_nil r1
  obtain rfl : args = #[v0, v1] := by cases args; simp_all
  obtain ⟨rfl, rfl⟩ := trodVars_none hV
  have hpost := hsame ⟨rfl, rfl, rfl⟩
  clear hsame hA0 hval0 hsz0
  obtain ⟨a0, rfl, rfl, rfl, wf0⟩ := open_int Tryz.underlying3 (hval 0 3 v0 rfl rfl) h0
  obtain ⟨a1, rfl, rfl, rfl, wf1⟩ := open_int Tryz.underlying3 (hval 1 3 v1 rfl rfl) h1
  have hw : Calls Tryz.prog 9 #[.int .i64 a0, .int .i64 a1] W fun e w' => e = .returned (.bool true) ∧ Below W.heap.size W w' := by
    by_cases h : 0 ≤ a0 ∧ a0 ≤ 1099511627776 ∧ 1125899906842624 ≤ a1 ∧ a1 ≤ 1152921504606846976
    · exact slow_in a0 a1 W h.1 h.2.1 h.2.2.1 h.2.2.2
    · exact slow_out a0 a1 W (by omega)
  exact (hw).mono fun e W' ⟨he, hb⟩ => ⟨_, he, hpost W' hb⟩
theorem ntpSlow_holds : Rows.NtpSlowSaid :=
  OpenClaim.holds_of_wide 9 Tryz.f9 rfl rfl rfl rfl rfl rfl rfl ⟨rfl, rfl, rfl, rfl, rfl⟩ rfl rfl rfl rfl rfl (by kernel_rfl) Tryz.func9 (by kernel_rfl)
    (of_decide_eq_true (by kernel_rfl)) (by unfold Func.isWrapper; first | (rw [if_pos (by decide +kernel)]; kernel_rfl) | (rw [if_neg (by decide +kernel)]; exact ⟨rfl, rfl⟩))
    (fun os started H enc _ => ntpSlow_lifted os started H enc)
end Go.Proofs.YtepdnkpmkhjlgaaGreat
