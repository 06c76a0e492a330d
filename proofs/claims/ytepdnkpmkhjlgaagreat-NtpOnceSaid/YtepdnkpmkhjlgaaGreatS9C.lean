/- Stage 9: NtpOnce: an answer is taken once, and a question that was asked anew has the elder one's answer no more: for every two numbers and both ways. -/
import Derived.Test.YtepdnkpmkhjlgaaGreatNtAns
set_option linter.unusedSimpArgs false
set_option linter.unusedVariables false
namespace Go.Proofs.YtepdnkpmkhjlgaaGreat
open Go.ChangeShapes Go.WideShapes Go.ChangeAt Go.RowKit Go.Joins Go.Sort

theorem once_out (servers server : Int) (again : Bool) (w : World) (h : servers < 1 ∨ (1 ≤ servers ∧ 8 < servers) ∨ (1 ≤ servers ∧ servers ≤ 8 ∧ server < 0) ∨ (1 ≤ servers ∧ servers ≤ 8 ∧ 0 ≤ server ∧ servers ≤ server)) :
    Calls Tryz.prog 4 #[.int .i64 servers, .int .i64 server, .bool again] w fun e w' => e = .returned (.bool true) ∧ Below w.heap.size w w' := by
  have HK := Lib.hid (known9 w)
  have hcs : decide (servers < 1) = true ∨ (decide (servers < 1) = false ∧ decide (servers > 8) = true) ∨ (decide (servers < 1) = false ∧ decide (servers > 8) = false ∧ decide (server < 0) = true) ∨ (decide (servers < 1) = false ∧ decide (servers > 8) = false ∧ decide (server < 0) = false ∧ decide (server ≥ servers) = true) := by
    simp only [decide_eq_true_eq, decide_eq_false_iff_not]
    omega
  clear h
  rcases hcs with t1 | ⟨t1, t2⟩ | ⟨t1, t2, t3⟩ | ⟨t1, t2, t3, t4⟩
  all_goals
    go_enter Tryz.func4, Tryz.ntmps4
    go_wp2_with (go_at_call 12; refine HK.out.mono ?_; rintro e w9 ⟨rfl, k9⟩)
    go_ret
    exact ⟨rfl, k9⟩
theorem turnK_q (rs : Srv → Srv) (hrs : ∀ s : Srv, (rs s).q = s.q) (K : Cs) (N : Nat) (hd : Int) (i : Nat) : ((turnK rs K N hd).S i).q = (K.S i).q := by
  unfold turnK
  split
  · rfl
  · exact hrs _
theorem ansP_0 (q s : Int) : ansP 0 q s = ⟨0, 4, 1, 0, 0, q, s, s⟩ := rfl
def onK (i : Nat) : Cs := askK (newK 5) i 5
theorem onK_f (i : Nat) : (onK i).c = 5 ∧ (onK i).t = 0 ∧ (onK i).l = 0 ∧ (onK i).n = 1 ∧ ((onK i).S i).q = 1 ∧ ((onK i).S i).a = 0 := by
  have e1 : rc 5 5 = 5 := by decide
  have e2 : rt 5 0 0 5 = 0 := by decide
  have e3 : rl 5 0 5 = 0 := by decide
  simp [onK, askK, readK, newK, updS, e1, e2, e3]
theorem onK_ok (N i : Nat) (hi : i < N) : (onK i).Ok N := (newK_ok 5 N (by omega) (by omega)).ask (by decide) i hi 5 (by omega)
/-- What the first answer leaves when nothing was asked anew. -/
theorem once_k (N i : Nat) (hi : i < N) : ∃ K4 : Cs, hearK rstP zt 3 21167 N (onK i) i 10 (tellP 1 1125899906842629) = (0, K4) ∧ (K4.S i).q = 0 ∧ K4.Ok N := by
  obtain ⟨e1, e2, e3, e4, e5, e6⟩ := onK_f i
  have h := hear_told rstP N (onK i) i 10 1 1125899906842629 5 0 e5 (by omega) e6 (by rw [e1, e2, e3]; decide) (by omega) (by omega) (by omega) (by omega) (by omega)
  have ok := (onK_ok N i hi).hear (z := zt) (n := 3) (x := 21167) rstP_ok (by show (0 : Int) < _; omega) i hi 10 (by omega) (tellP 1 1125899906842629)
  rw [if_pos (by omega)] at h
  rw [h] at ok
  refine ⟨_, h, ?_, ok⟩
  rw [turnK_q rstP (fun _ => rfl)]
  simp [smpK, readK, clrK, updS]
set_option maxRecDepth 100000 in
set_option maxHeartbeats 8000000 in
theorem once_in (N i : Nat) (again : Bool) (w : World) (n0 : 1 ≤ N) (n1 : N ≤ 8) (hi : i < N) :
    Calls Tryz.prog 4 #[.int .i64 N, .int .i64 i, .bool again] w fun e w' => e = .returned (.bool true) ∧ Below w.heap.size w w' := by
  obtain ⟨K4, hk4, hq4, ok4⟩ := once_k N i hi
  have HK4 := Lib.hid (And.intro hk4 (And.intro hq4 ok4))
  have HTB := Lib.hid (table4 w)
  have HKN := Lib.hid (fun W : World => known9 W)
  have t1 : decide ((N : Int) < 1) = false := by simp; omega
  have t2 : decide ((N : Int) > 8) = false := by simp; omega
  have t3 : decide ((i : Int) < 0) = false := by simp
  have t4 : decide ((i : Int) ≥ (N : Int)) = false := by simp; omega
  clear hk4 hq4 ok4
  go_enter Tryz.func4, Tryz.ntmps4
  go_wp2_with fail
  refine HTB.out.mono ?_; rintro e w1 ⟨B0, rfl, hb1, hf1⟩
  have HST := Lib.hid (law_start ⟨B0, 0, none⟩ 3 3 21167 zt N 5 w1 hf1 zt_tab n0 n1 (by omega) (by omega))
  have HB1 := Lib.hid hb1
  clear hb1 hf1 HTB t1 t2 t3 t4
  go_wp2_with fail
  refine HST.out.mono ?_; rintro e w2 ⟨⟨bp, b, bc, bs, A1, c1, rb, rbc, rbs, A2, c2, m1, m2, rfl, hpr, hm1, hm2⟩, hb2⟩
  have ACT := (.cells #[.int .i64 1, .int .i64 i, .int .i64 0, .int .i64 0, .int .i64 0, .int .i64 0, .slice none 0 0] 41 : Obj)
  have k2 : Below w2.heap.size w2 (w2.alloc (.cells #[.int .i64 1, .int .i64 i, .int .i64 0, .int .i64 0, .int .i64 0, .int .i64 0, .slice none 0 0] 41)) := (Below.refl _ _).alloc (Nat.le_refl _) _
  have hm0 : w.heap.size ≤ w1.heap.size := HB1.out.size
  have hr1 := hpr.r1
  have hr3 := hpr.r3
  have lbp2 := hpr.ql
  have p2 := hpr.q2
  obtain ⟨m0, hm0e⟩ : ∃ m0, w1.heap.size = m0 := ⟨_, rfl⟩
  have HB2 := Lib.hid ((HB1.out.trans (hb2.mono HB1.out.size)).trans (k2.mono (HB1.out.trans (hb2.mono HB1.out.size)).size))
  rw [hm0e] at hpr hm0 hm1 hr1
  have HP2 := Lib.hid (hpr.below k2)
  have HDO := Lib.hid (law_does1 HP2.out (newK_ok 5 N (by omega) (by omega)) (newK_ok 5 N (by omega) (by omega)) rfl (by show (0 : Int) < _; omega) n1 i hi (by omega) (by omega))
  have x0 : (w2.alloc (.cells #[.int .i64 1, .int .i64 i, .int .i64 0, .int .i64 0, .int .i64 0, .int .i64 0, .slice none 0 0] 41)).cell? ⟨w2.heap.size, 0, none⟩ = some (.int .i64 1) := by simp
  have x1 : (w2.alloc (.cells #[.int .i64 1, .int .i64 i, .int .i64 0, .int .i64 0, .int .i64 0, .int .i64 0, .slice none 0 0] 41)).cell? ⟨w2.heap.size, 1, none⟩ = some (.int .i64 i) := by simp
  have x2 : (w2.alloc (.cells #[.int .i64 1, .int .i64 i, .int .i64 0, .int .i64 0, .int .i64 0, .int .i64 0, .slice none 0 0] 41)).cell? ⟨w2.heap.size, 2, none⟩ = some (.int .i64 0) := by simp
  have x3 : (w2.alloc (.cells #[.int .i64 1, .int .i64 i, .int .i64 0, .int .i64 0, .int .i64 0, .int .i64 0, .slice none 0 0] 41)).cell? ⟨w2.heap.size, 3, none⟩ = some (.int .i64 0) := by simp
  have x4 : (w2.alloc (.cells #[.int .i64 1, .int .i64 i, .int .i64 0, .int .i64 0, .int .i64 0, .int .i64 0, .slice none 0 0] 41)).cell? ⟨w2.heap.size, 4, none⟩ = some (.int .i64 0) := by simp
  have x5 : (w2.alloc (.cells #[.int .i64 1, .int .i64 i, .int .i64 0, .int .i64 0, .int .i64 0, .int .i64 0, .slice none 0 0] 41)).cell? ⟨w2.heap.size, 5, none⟩ = some (.int .i64 0) := by simp
  have x6 : (w2.alloc (.cells #[.int .i64 1, .int .i64 i, .int .i64 0, .int .i64 0, .int .i64 0, .int .i64 0, .slice none 0 0] 41)).cell? ⟨w2.heap.size, 6, none⟩ = some (.slice none 0 0) := by simp
  have la : w2.heap.size < (w2.alloc (.cells #[.int .i64 1, .int .i64 i, .int .i64 0, .int .i64 0, .int .i64 0, .int .i64 0, .slice none 0 0] 41)).heap.size := by simp
  have XX := Lib.hid (And.intro x0 (And.intro x1 (And.intro x2 (And.intro x3 (And.intro x4 (And.intro x5 x6))))))
  clear hb2 hpr HST HB1 hm0e k2 x0 x1 x2 x3 x4 x5 x6 ACT
  go_wp2_with fail
  generalize w2.alloc (.cells #[.int .i64 1, .int .i64 i, .int .i64 0, .int .i64 0, .int .i64 0, .int .i64 0, .slice none 0 0] 41) = W2 at *
  generalize w2.heap.size = ga at *
  refine HDO.out.mono ?_; rintro e w3 ⟨rfl, hp3, hf3⟩
  have HP3 : Hid (Pr w3 bp b bc bs A1 c1 rb rbc rbs A2 c2 ⟨B0, 0, none⟩ 3 3 21167 zt N m0 m1 m2 (onK i) (onK i) 5 (updI (fun _ => 0) i 1) (updI (fun _ => 0) i 5)) := Lib.hid hp3
  have HB3 := Lib.hid (HB2.out.trans (hf3.below (fun k hk => by omega) HB2.out.size))
  obtain ⟨x0, x1, x2, x3, x4, x5, x6⟩ := XX.out
  have ngb : ¬ (m0 ≤ ga ∧ ga ≤ bp) := by omega
  have y := fun o => hf3.cell ga o la ngb
  have x0 := (y 0).trans x0
  have x1 := (y 1).trans x1
  have x2 := (y 2).trans x2
  have x3 := (y 3).trans x3
  have x4 := (y 4).trans x4
  have x5 := (y 5).trans x5
  have x6 := (y 6).trans x6
  have la := Nat.lt_of_lt_of_le la hf3.size
  clear hp3 hf3 HP2 HB2 HDO p2 y XX
  have HAN0 := law_answer HP3.out i (by omega) 1125899906842624 0 (by omega) (by simp [updI]) (by omega) (by simp [updI]) (by simp [updI])
  have eT : updI (fun _ => (0 : Int)) i 5 i + 1125899906842624 = 1125899906842629 := by simp [updI]
  have eq1 : updI (fun _ => (0 : Int)) i 1 i = 1 := by simp [updI]
  rw [eT, eq1, ansP_0] at HAN0
  have HAN := Lib.hid HAN0
  have XX := Lib.hid (And.intro x0 (And.intro x1 (And.intro x2 (And.intro x3 (And.intro x4 (And.intro x5 x6))))))
  clear HAN0 eT eq1 x0 x1 x2 x3 x4 x5 x6
  go_wp2_with fail
  refine HAN.out.mono ?_; rintro e w4 ⟨⟨g, cap, rfl, hg, hpk⟩, k4⟩
  have HP4 := Lib.hid (HP3.out.below k4)
  have HB4 := Lib.hid (HB3.out.trans (k4.mono HB3.out.size))
  have HPK : Hid (PkAt w4 g cap (tellP 1 1125899906842629)) := Lib.hid hpk
  obtain ⟨x0, x1, x2, x3, x4, x5, x6⟩ := XX.out
  have y := fun o => k4.cell (p := ⟨ga, o, none⟩) la
  have x0 := (y 0).trans x0
  have x1 := (y 1).trans x1
  have x2 := (y 2).trans x2
  have x3 := (y 3).trans x3
  have x4 := (y 4).trans x4
  have x5 := (y 5).trans x5
  have x6 := (y 6).trans x6
  have lbp3 := HP3.out.ql
  have hgb : bp < g := by omega
  have p2 := HP4.out.q2
  clear k4 hpk HP3 HB3 HAN XX y
  obtain ⟨e1, e2, e3, e4, e5, e6⟩ := onK_f i
  cases again
  · as_aux_lemma =>
    have HH1 := Lib.hid (ntp_hear_b HP4.out.P (onK_ok N i hi) n1 i hi 10 (by omega) HPK.out (tell_ok 1 1125899906842629 (by omega)))
    rw [HK4.out.1] at HH1
    clear x0 x1 x2 x3 x4 x5 x6
    go_wp2_with fail
    refine HH1.out.mono ?_; rintro e w5 ⟨rfl, hn5, hf5⟩
    have HP5 := Lib.hid (HP4.out.onP hn5 hf5)
    have HB5 := Lib.hid (HB4.out.trans (hf5.below (fun k hk => by unfold Ft at hk; omega) HB4.out.size))
    have HPK5 := Lib.hid (HPK.out.but hf5 (by unfold Ft; omega))
    have p2 := HP5.out.q2
    clear hn5 hf5 HP4 HB4 HPK HH1
    have HH2 := Lib.hid (ntp_hear_b HP5.out.P HK4.out.2.2 n1 i hi 11 (by omega) HPK5.out (tell_ok 1 1125899906842629 (by omega)))
    rw [hear_again rstP zt 3 21167 N K4 i 11 (tellP 1 1125899906842629) rfl HK4.out.2.1] at HH2
    go_wp2_with fail
    refine HH2.out.mono ?_; rintro e w6 ⟨rfl, hn6, hf6⟩
    have HB6 := Lib.hid (HB5.out.trans (hf6.below (fun k hk => by unfold Ft at hk; omega) HB5.out.size))
    clear hn6 hf6 HP5 HB5 HPK5 HH2
    go_wp2_with (go_at_call 12; refine (HKN.out _).mono ?_; rintro e wk ⟨rfl, k9⟩)
    go_ret
    exact ⟨rfl, HB6.out.trans (k9.mono HB6.out.size)⟩
  · as_aux_lemma =>
    have HDO := Lib.hid (law_does1 HP4.out (onK_ok N i hi) (onK_ok N i hi) rfl (by rw [e4]; omega) n1 i hi (by omega) (by omega))
    have hq2 : ((askK (onK i) i 5).S i).q = 2 := by simp [askK, updS, e4]
    have hwr : ∀ count : Int, hearK rstP zt 3 21167 N (askK (onK i) i 5) i count (tellP 1 1125899906842629) = (14, askK (onK i) i 5) := fun count => by
      unfold hearK
      rw [if_neg (by simp), if_pos (Or.inr (by rw [hq2]; simp))]
    have hok2 := (onK_ok N i hi).ask (by rw [e4]; omega) i hi 5 (by omega)
    go_wp2_with (go_at_call 13; refine HDO.out.mono ?_; rintro e w5 ⟨rfl, hp5, hf5⟩; have p2 := hp5.q2; have lb5 := hp5.ql)
    have HP5 := Lib.hid hp5
    have HB5 := Lib.hid (HB4.out.trans (hf5.below (fun k hk => by omega) HB4.out.size))
    have HPK5 := Lib.hid (HPK.out.but hf5 (by omega))
    have p2 := HP5.out.q2
    have HH1 := Lib.hid (ntp_hear_b HP5.out.P hok2 n1 i hi 10 (by omega) HPK5.out (tell_ok 1 1125899906842629 (by omega)))
    rw [hwr] at HH1
    clear hp5 hf5 HP4 HB4 HPK HDO x0 x1 x2 x3 x4 x5 x6
    refine HH1.out.mono ?_; rintro e w6 ⟨rfl, hn6, hf6⟩
    have HP6 := Lib.hid (HP5.out.onP hn6 hf6)
    have HB6 := Lib.hid (HB5.out.trans (hf6.below (fun k hk => by unfold Ft at hk; omega) HB5.out.size))
    have HPK6 := Lib.hid (HPK5.out.but hf6 (by unfold Ft; omega))
    have p2 := HP6.out.q2
    clear hn6 hf6 HP5 HB5 HPK5 HH1
    have HH2 := Lib.hid (ntp_hear_b HP6.out.P hok2 n1 i hi 11 (by omega) HPK6.out (tell_ok 1 1125899906842629 (by omega)))
    rw [hwr] at HH2
    go_wp2_with fail
    refine HH2.out.mono ?_; rintro e w7 ⟨rfl, hn7, hf7⟩
    have HB7 := Lib.hid (HB6.out.trans (hf7.below (fun k hk => by unfold Ft at hk; omega) HB6.out.size))
    clear hn7 hf7 HP6 HB6 HPK6 HH2
    go_wp2_with (go_at_call 12; refine (HKN.out _).mono ?_; rintro e wk ⟨rfl, k9⟩)
    go_ret
    exact ⟨rfl, HB7.out.trans (k9.mono HB7.out.size)⟩
set_option maxRecDepth 100000 in
theorem ntpOnce_lifted (os : Os) (started : os.Started) (H : Type) (enc : TypeId × Value → H) :
    ReturnsInHanded {} Tryz.checked os 4 .any (Rows.ntpOnceSpec.pre6 enc Tryz.prog Tryz.f4 Rows.ntpOnceRow.domain false) (Rows.ntpOnceSpec.post enc Tryz.prog Tryz.f4 false true false false) := by
  refine returnsInHanded_of_change_sized (C := Tryz.checked) law_own started (by kernel_rfl) Tryz.func4
    (ChangeSpec.witness6 (enc := enc) (C := Tryz.checked) false ⟨#[], #[.int .i64 0, .int .i64 0, .bool false], []⟩ 8 (by kernel_rfl) (by kernel_rfl) (by kernel_rfl) (by kernel_rfl)) ?_
  intro W base args ds gs before hval0 hW hcnd hsz0 _
  have hval : ∀ (j : Nat) t v, Tryz.f4.params[j]? = some t → args[j]? = some v → Value.okWide Tryz.prog W .any base t v := hval0
  have hsz : (DataW.weightsEach Tryz.prog (Tryz.f4.params.toList ++ Rows.ntpOnceSpec.plain.varTypes Tryz.prog) (ds ++ gs)).all (· ≤ reachBytes) = true := hsz0
  have hW' := hW
  obtain ⟨p, q, hA0, hV, rfl, hfz, hnd⟩ := hW
  have hA : DataW.TrodAll enc Tryz.prog W 0 (fun _ => true) true Tryz.f4.params.toList args.toList ds p := hA0
  rw [Tryz.params4] at hA hval hsz
  have hsame : (Rows.ntpOnceSpec.fn H (ds ++ gs)).results = [.lit (.bool true)] ∧ (Rows.ntpOnceSpec.fn H (ds ++ gs)).args = ds ∧ (Rows.ntpOnceSpec.fn H (ds ++ gs)).vars = [] → ∀ W', Below W.heap.size W W' → Rows.ntpOnceSpec.post enc Tryz.prog Tryz.f4 false true false false W args (.bool true) W' :=
    fun h W' hb => law_post (tb := 4) hW' law_laid (by kernel_rfl) rfl Tryz.underlying4 h.1 h.2.1 rfl h.2.2 hb
  obtain ⟨v0, vs0, d0, ds0, p0, q0, hargs, rfl, rfl, h0, r0⟩ := trodAll_cons hA
  obtain ⟨v1, vs1, d1, ds1, p1, q1, rfl, rfl, rfl, h1, r1⟩ := trodAll_cons r0
  obtain ⟨v2, vs2, d2, ds2, p2, q2, rfl, rfl, rfl, h2, r2⟩ := trodAll_cons r1
  obtain ⟨rfl, rfl, rfl⟩ := trodAll_nil r2
  obtain rfl : args = #[v0, v1, v2] := by cases args; simp_all
  obtain ⟨rfl, rfl⟩ := trodVars_none hV
  have hpost := hsame ⟨rfl, rfl, rfl⟩
  clear hsame hA0 hval0 hsz0
  obtain ⟨a0, rfl, rfl, rfl, wf0⟩ := open_int Tryz.underlying3 (hval 0 3 v0 rfl rfl) h0
  obtain ⟨a1, rfl, rfl, rfl, wf1⟩ := open_int Tryz.underlying3 (hval 1 3 v1 rfl rfl) h1
  obtain ⟨again, rfl, rfl, rfl⟩ := open_bool Tryz.underlying4 (hval 2 4 v2 rfl rfl) h2
  have hw : Calls Tryz.prog 4 #[.int .i64 a0, .int .i64 a1, .bool again] W fun e w' => e = .returned (.bool true) ∧ Below W.heap.size W w' := by
    by_cases h : 1 ≤ a0 ∧ a0 ≤ 8 ∧ 0 ≤ a1 ∧ a1 < a0
    · obtain ⟨q, hq⟩ := Int.eq_ofNat_of_zero_le (show 0 ≤ a0 by omega)
      obtain ⟨r, hr⟩ := Int.eq_ofNat_of_zero_le (show 0 ≤ a1 by omega)
      subst hq
      subst hr
      exact once_in q r again W (by omega) (by omega) (by omega)
    · exact once_out a0 a1 again W (by omega)
  exact (hw).mono fun e W' ⟨he, hb⟩ => ⟨_, he, hpost W' hb⟩
theorem ntpOnce_holds : Rows.NtpOnceSaid :=
  OpenClaim.holds_of_wide 4 Tryz.f4 rfl rfl rfl rfl rfl rfl rfl ⟨rfl, rfl, rfl, rfl, rfl⟩ rfl rfl rfl rfl rfl (by kernel_rfl) Tryz.func4 (by kernel_rfl)
    (of_decide_eq_true (by kernel_rfl)) (by unfold Func.isWrapper; first | (rw [if_pos (by decide +kernel)]; kernel_rfl) | (rw [if_neg (by decide +kernel)]; exact ⟨rfl, rfl⟩))
    (fun os started H enc _ => ntpOnce_lifted os started H enc)
end Go.Proofs.YtepdnkpmkhjlgaaGreat
