/- Stage 9: NtpOld: a sample that is older than so much is not counted, and one that is not, is: for every two numbers. -/
import Derived.Test.YtepdnkpmkhjlgaaGreatM9P
set_option linter.unusedSimpArgs false
set_option linter.unusedVariables false
namespace Go.Proofs.YtepdnkpmkhjlgaaGreat
open Go.ChangeShapes Go.WideShapes Go.ChangeAt Go.RowKit Go.Joins Go.Sort

theorem old_out (age ahead : Int) (w : World) (h : age < 0 ∨ (0 ≤ age ∧ 35184372088832 < age) ∨ (0 ≤ age ∧ age ≤ 35184372088832 ∧ ahead < 1125899906842624) ∨ (0 ≤ age ∧ age ≤ 35184372088832 ∧ 1125899906842624 ≤ ahead ∧ 1152921504606846976 < ahead)) :
    Calls Tryz.prog 8 #[.int .i64 age, .int .i64 ahead] w fun e w' => e = .returned (.bool true) ∧ Below w.heap.size w w' := by
  have HK := Lib.hid (known9 w)
  have hcs : decide (age < 0) = true ∨ (decide (age < 0) = false ∧ decide (age > 35184372088832) = true) ∨ (decide (age < 0) = false ∧ decide (age > 35184372088832) = false ∧ decide (ahead < 1125899906842624) = true) ∨ (decide (age < 0) = false ∧ decide (age > 35184372088832) = false ∧ decide (ahead < 1125899906842624) = false ∧ decide (ahead > 1152921504606846976) = true) := by
    simp only [decide_eq_true_eq, decide_eq_false_iff_not]
    omega
  clear h
  rcases hcs with t1 | ⟨t1, t2⟩ | ⟨t1, t2, t3⟩ | ⟨t1, t2, t3, t4⟩
  all_goals
    go_enter Tryz.func8, Tryz.ntmps8
    go_wp2_with (go_at_call 12; refine HK.out.mono ?_; rintro e w9 ⟨rfl, k9⟩)
    go_ret
    exact ⟨rfl, k9⟩
def oldK (ahead : Int) : Cs := smpK (readK (clrK kn1 0) 0) 0 0 (ahead - 1) (ahead + 1)
theorem old_k1 (ahead : Int) (a0 : 1125899906842624 ≤ ahead) (a1 : ahead ≤ 1152921504606846976) : hearK rstP zt 3 21167 3 kn1 0 0 (tellP 1 ahead) = (0, oldK ahead) := by
  have h := hear_told rstP 3 kn1 0 0 1 ahead 0 0 kn1_q.1 (by omega) kn1_q.2.1 (by decide) (by omega) (by omega) (by omega) (by omega) (by omega)
  rw [if_pos (by omega), show (2 * ahead - 0 - 0) / 2 - ((0 - 0) / 2 + 1) = ahead - 1 from by omega, show (2 * ahead - 0 - 0) / 2 + ((0 - 0) / 2 + 1) = ahead + 1 from by omega] at h
  rw [h]
  show (0, turnK rstP (oldK ahead) 3 0) = _
  have hc : cand (oldK ahead).S 0 3 = List.replicate 1 (ahead - 1, ahead + 1) := rfl
  unfold turnK
  rw [hc, mostP_eq (most_rep (ahead - 1) (ahead + 1) (by omega) 1 (by omega)), if_pos (by simp)]
theorem old_n (ahead : Int) : (oldK ahead).n = 1 ∧ (oldK ahead).c = 0 ∧ (oldK ahead).t = 0 ∧ (oldK ahead).l = 0 ∧ (oldK ahead).syn = 0 := ⟨rfl, (by show rc kn1.c 0 = 0; decide), (by show rt kn1.c kn1.t kn1.l 0 = 0; decide), (by show rl kn1.c kn1.l 0 = 0; decide), rfl⟩
theorem old_ok (ahead : Int) (a0 : 1125899906842624 ≤ ahead) (a1 : ahead ≤ 1152921504606846976) : (oldK ahead).Ok 3 := by
  have h := (((newK_ok 0 3 (by omega) (by omega)).ask (by decide) 0 (by omega) 0 (by omega)).hear (z := zt) (n := 3) (x := 21167) rstP_ok (by decide) 0 (by omega) 0 (by omega) (tellP 1 ahead))
  rwa [show askK (newK 0) 0 0 = kn1 from rfl, old_k1 ahead a0 a1] at h
theorem rt_same (c t l : Int) : rt c t l c = t := by unfold rt; rw [if_neg (by omega)]
theorem old_k2 (age ahead : Int) (d0 : 0 ≤ age) (d1 : age ≤ 35184372088832) (a0 : 1125899906842624 ≤ ahead) (a1 : ahead ≤ 1152921504606846976) :
    ∃ K4 : Cs, hearK rstP zt 3 21167 3 (askK (oldK ahead) 1 age) 1 age (tellP 2 (ahead + age)) = (0, K4) ∧ K4.syn = (if age ≤ 1024000000000 then 1 else 0) := by
  obtain ⟨e1, e2, e3, e4, e5⟩ := old_n ahead
  have ea : rt (oldK ahead).c (oldK ahead).t (oldK ahead).l age = age := by rw [e2, e3, e4]; have := rt_new 0 age d0 (by omega) (by omega); rw [Int.sub_zero] at this; exact this
  have hc : (askK (oldK ahead) 1 age).c = age := by show rc (oldK ahead).c age = age; rw [e2]; unfold rc; split <;> omega
  have ht : (askK (oldK ahead) 1 age).t = age := ea
  have h := hear_told rstP 3 (askK (oldK ahead) 1 age) 1 age 2 (ahead + age) age age (by show (oldK ahead).n + 1 = 2; rw [e1]; rfl) (by omega) (by show rt (oldK ahead).c (oldK ahead).t (oldK ahead).l age = age; exact ea) (by rw [hc, rt_same, ht]) (by omega) (by omega) d0 (Int.le_refl _) (by omega)
  rw [if_pos (by omega), show (2 * (ahead + age) - age - age) / 2 - ((age - age) / 2 + 1) = ahead - 1 from by omega, show (2 * (ahead + age) - age - age) / 2 + ((age - age) / 2 + 1) = ahead + 1 from by omega] at h
  refine ⟨_, h, ?_⟩
  have s0 : ∀ j, ((smpK (readK (clrK (askK (oldK ahead) 1 age) 1) age) 1 age (ahead - 1) (ahead + 1)).S j) = if j = 1 then ⟨0, rt (oldK ahead).c (oldK ahead).t (oldK ahead).l age, true, age, ahead - 1, ahead + 1⟩ else (oldK ahead).S j := by
    intro j
    by_cases hj : j = 1
    · subst hj; rfl
    · simp [smpK, readK, clrK, askK, updS, hj]
  by_cases hg : age ≤ 1024000000000
  · rw [if_pos hg]
    have hcd : cand (smpK (readK (clrK (askK (oldK ahead) 1 age) 1) age) 1 age (ahead - 1) (ahead + 1)).S age 3 = List.replicate 2 (ahead - 1, ahead + 1) := by
      unfold cand cand cand cand frB
      rw [s0 0, s0 1, s0 2]
      simp [oldK, smpK, readK, clrK, kn1, askK, newK, updS, hg, List.replicate]
    unfold turnK
    rw [hcd, mostP_eq (most_rep (ahead - 1) (ahead + 1) (by omega) 2 (by omega)), if_neg (by simp)]
    rfl
  · rw [if_neg hg]
    have hcd : cand (smpK (readK (clrK (askK (oldK ahead) 1 age) 1) age) 1 age (ahead - 1) (ahead + 1)).S age 3 = List.replicate 1 (ahead - 1, ahead + 1) := by
      unfold cand cand cand cand frB
      rw [s0 0, s0 1, s0 2]
      simp [oldK, smpK, readK, clrK, kn1, askK, newK, updS, hg, List.replicate]
    unfold turnK
    rw [hcd, mostP_eq (most_rep (ahead - 1) (ahead + 1) (by omega) 1 (by omega)), if_pos (by simp)]
    rfl
set_option maxRecDepth 100000 in
set_option maxHeartbeats 8000000 in
theorem old_in (age ahead : Int) (w : World) (d0 : 0 ≤ age) (d1 : age ≤ 35184372088832) (a0 : 1125899906842624 ≤ ahead) (a1 : ahead ≤ 1152921504606846976) :
    Calls Tryz.prog 8 #[.int .i64 age, .int .i64 ahead] w fun e w' => e = .returned (.bool true) ∧ Below w.heap.size w w' := by
  obtain ⟨K4, hk4, hs4⟩ := old_k2 age ahead d0 d1 a0 a1
  have hcs : ∃ sy : Int, (if age ≤ 1024000000000 then (1 : Int) else 0) = sy ∧ ((sy = 1 ∧ decide (age ≤ 1024000000000) = true) ∨ (sy = 0 ∧ decide (age ≤ 1024000000000) = false)) := by
    by_cases hd : age ≤ 1024000000000
    · exact ⟨1, by rw [if_pos hd], .inl ⟨rfl, by simp; omega⟩⟩
    · exact ⟨0, by rw [if_neg hd], .inr ⟨rfl, by simp; omega⟩⟩
  obtain ⟨sy, hs, hcs⟩ := hcs
  rw [hs] at hs4
  have HK1 := Lib.hid (old_k1 ahead a0 a1)
  have HO1 := Lib.hid (old_ok ahead a0 a1)
  have HK4 := Lib.hid (And.intro hk4 hs4)
  have HTB := Lib.hid (table4 w)
  have HKN := Lib.hid (fun W : World => known9 W)
  have t1 : decide (age < 0) = false := by simp; omega
  have t2 : decide (age > 35184372088832) = false := by simp; omega
  have t3 : decide (ahead < 1125899906842624) = false := by simp; omega
  have t4 : decide (ahead > 1152921504606846976) = false := by simp; omega
  have wa : IntKind.i64.wrap (ahead + age) = ahead + age := IntWalk.i64_in _ (by omega)
  have HBD := Lib.hid (And.intro d0 (And.intro d1 (And.intro a0 a1)))
  clear hk4 hs4 hs d0 d1 a0 a1
  go_enter Tryz.func8, Tryz.ntmps8
  go_wp2_with fail
  refine HTB.out.mono ?_; rintro e w1 ⟨B0, rfl, hb1, hf1⟩
  have HST := Lib.hid (law_start ⟨B0, 0, none⟩ 3 3 21167 zt 3 0 w1 hf1 zt_tab (by omega) (by omega) (by omega) (by omega))
  have HB1 := Lib.hid hb1
  clear hb1 hf1 HTB t1 t2 t3 t4
  go_wp2_with fail
  refine HST.out.mono ?_; rintro e w2 ⟨⟨bp, b, bc, bs, A1, c1, rb, rbc, rbs, A2, c2, m1, m2, rfl, hpr, hm1, hm2⟩, hb2⟩
  have HP2 := Lib.hid hpr
  have HB2 := Lib.hid (HB1.out.trans (hb2.mono HB1.out.size))
  have p2 := hpr.q2
  have hm0 : w.heap.size ≤ w1.heap.size := HB1.out.size
  have hr1 := hpr.r1
  have hr3 := hpr.r3
  obtain ⟨m0, hm0e⟩ : ∃ m0, w1.heap.size = m0 := ⟨_, rfl⟩
  rw [hm0e] at HP2 hm0 hm1 hr1
  have lbp := hpr.ql
  clear hb2 hpr HST HB1 hm0e
  go_wp2_with fail
  clear p2
  refine wp_region_held_drew (S := fun w' => w'.cell? ⟨bp, 2, none⟩ = some (.pointer (some ⟨b, 0, none⟩))) (by kernel_rfl) ?_ (fun hHeld => ?_)
  · exact HP2.out.q2
  have HPv := Lib.hid (HP2.out.below (w' := w2.drew) ((Below.refl _ _).drew))
  have HBv := Lib.hid HB2.out.drew
  clear HP2 HB2
  generalize w2.drew = V1 at *
  have HDO := Lib.hid (law_does1 HPv.out (newK_ok 0 3 (by omega) (by omega)) (newK_ok 0 3 (by omega) (by omega)) (rfl) (by decide) (by omega) 0 (by omega) (by have := HBD.out; omega) (by have := HBD.out; omega))
  refine wpAnyH_take (i := 0) (v := ?_) rfl (by kernel_rfl) (by kernel_rfl) (by kernel_rfl) (fun _ _ _ h => h) (Or.inl ⟨by rfl, ?_⟩) (by assumption) ?_
  rotate_left
  · intro w' hSw; (try dsimp only at hSw); go_simp; (try with_reducible rfl)
  (try simp only [Act.put, List.setIfInBounds_toArray, List.set_cons_zero, List.set_cons_succ, List.getElem_toArray, List.getElem_cons_succ, List.getElem_cons_zero])
  refine wpAnyH_take (i := 1) (v := ?_) rfl (by kernel_rfl) (by kernel_rfl) (by kernel_rfl) (fun _ _ _ h => h) (Or.inl ⟨by rfl, ?_⟩) (by assumption) ?_
  rotate_left
  · intro w' hSw; (try dsimp only at hSw); go_simp; (try with_reducible rfl)
  (try simp only [Act.put, List.setIfInBounds_toArray, List.set_cons_zero, List.set_cons_succ, List.getElem_toArray, List.getElem_cons_succ, List.getElem_cons_zero])
  refine wpAnyH_ready (rs := [2]) (by kernel_rfl) (by simp) ?_
  refine AllReadyH.cons rfl (fun K hK => ?_) (AllReadyH.nil)
  go_simp
  (go_at_call 13; refine HDO.out.mono ?_; rintro e w3 ⟨rfl, hp3, hf3⟩)
  have HP3 : Hid (Pr w3 bp b bc bs A1 c1 rb rbc rbs A2 c2 ⟨B0, 0, none⟩ 3 3 21167 zt 3 m0 m1 m2 kn1 kn1 0 (updI (fun _ => 0) 0 1) (updI (fun _ => 0) 0 0)) := Lib.hid hp3
  have HB3 := Lib.hid (HBv.out.trans (hf3.below (fun k hk => by omega) HBv.out.size))
  have lbp3 := HP3.out.ql
  clear hp3 hf3 HPv HBv HDO
  (try dsimp only)
  refine hK.out _ _ ?_ (fun hHeld => ?_)
  · exact HP3.out.q2
  clear hK K
  (try simp only [Act.put, List.setIfInBounds_toArray, List.set_cons_zero, List.set_cons_succ, List.getElem_toArray, List.getElem_cons_succ, List.getElem_cons_zero])
  have HTE := Lib.hid (law_tells HP3.out 0 (by omega) (ahead) (by have := HBD.out; omega) (by have := HBD.out; omega) (by simp [updI]))
  refine wpAnyH_take (i := 3) (v := ?_) rfl (by kernel_rfl) (by kernel_rfl) (by kernel_rfl) (fun _ _ _ h => h) (Or.inl ⟨by rfl, ?_⟩) (by assumption) ?_
  rotate_left
  · intro w' hSw; (try dsimp only at hSw); go_simp; (try with_reducible rfl)
  (try simp only [Act.put, List.setIfInBounds_toArray, List.set_cons_zero, List.set_cons_succ, List.getElem_toArray, List.getElem_cons_succ, List.getElem_cons_zero])
  refine wpAnyH_take (i := 4) (v := ?_) rfl (by kernel_rfl) (by kernel_rfl) (by kernel_rfl) (fun _ _ _ h => h) (Or.inl ⟨by rfl, ?_⟩) (by assumption) ?_
  rotate_left
  · intro w' hSw; (try dsimp only at hSw); go_simp; (try with_reducible rfl)
  (try simp only [Act.put, List.setIfInBounds_toArray, List.set_cons_zero, List.set_cons_succ, List.getElem_toArray, List.getElem_cons_succ, List.getElem_cons_zero])
  refine wpAnyH_take (i := 5) (v := ?_) rfl (by kernel_rfl) (by kernel_rfl) (by kernel_rfl) (fun _ _ _ h => h) (Or.inl ⟨by rfl, ?_⟩) (by assumption) ?_
  rotate_left
  · intro w' hSw; (try dsimp only at hSw); go_simp; (try with_reducible rfl)
  (try simp only [Act.put, List.setIfInBounds_toArray, List.set_cons_zero, List.set_cons_succ, List.getElem_toArray, List.getElem_cons_succ, List.getElem_cons_zero])
  refine wpAnyH_take (i := 6) (v := ?_) rfl (by kernel_rfl) (by kernel_rfl) (by kernel_rfl) (fun _ _ _ h => h) (Or.inl ⟨by rfl, ?_⟩) (by assumption) ?_
  rotate_left
  · intro w' hSw; (try dsimp only at hSw); go_simp; (try with_reducible rfl)
  (try simp only [Act.put, List.setIfInBounds_toArray, List.set_cons_zero, List.set_cons_succ, List.getElem_toArray, List.getElem_cons_succ, List.getElem_cons_zero])
  refine wpAnyH_take (i := 7) (v := ?_) rfl (by kernel_rfl) (by kernel_rfl) (by kernel_rfl) (fun _ _ _ h => h) (Or.inl ⟨by rfl, ?_⟩) (by assumption) ?_
  rotate_left
  · intro w' hSw; (try dsimp only at hSw); go_simp; (try with_reducible rfl)
  (try simp only [Act.put, List.setIfInBounds_toArray, List.set_cons_zero, List.set_cons_succ, List.getElem_toArray, List.getElem_cons_succ, List.getElem_cons_zero])
  refine wpAnyH_take (i := 8) (v := ?_) rfl (by kernel_rfl) (by kernel_rfl) (by kernel_rfl) (fun _ _ _ h => h) (Or.inl ⟨by rfl, ?_⟩) (by assumption) ?_
  rotate_left
  · intro w' hSw; (try dsimp only at hSw); go_simp; (try with_reducible rfl)
  (try simp only [Act.put, List.setIfInBounds_toArray, List.set_cons_zero, List.set_cons_succ, List.getElem_toArray, List.getElem_cons_succ, List.getElem_cons_zero])
  refine wpAnyH_take (i := 9) (v := ?_) rfl (by kernel_rfl) (by kernel_rfl) (by kernel_rfl) (fun _ _ _ h => h) (Or.inl ⟨by rfl, ?_⟩) (by assumption) ?_
  rotate_left
  · intro w' hSw; (try dsimp only at hSw); go_simp; (try with_reducible rfl)
  (try simp only [Act.put, List.setIfInBounds_toArray, List.set_cons_zero, List.set_cons_succ, List.getElem_toArray, List.getElem_cons_succ, List.getElem_cons_zero])
  refine wpAnyH_take (i := 10) (v := ?_) rfl (by kernel_rfl) (by kernel_rfl) (by kernel_rfl) (fun _ _ _ h => h) (Or.inl ⟨by rfl, ?_⟩) (by assumption) ?_
  rotate_left
  · intro w' hSw; (try dsimp only at hSw); go_simp; (try with_reducible rfl)
  (try simp only [Act.put, List.setIfInBounds_toArray, List.set_cons_zero, List.set_cons_succ, List.getElem_toArray, List.getElem_cons_succ, List.getElem_cons_zero])
  refine wpAnyH_ready (rs := [11]) (by kernel_rfl) (by simp) ?_
  refine AllReadyH.cons rfl (fun K hK => ?_) (AllReadyH.nil)
  go_simp
  (go_at_call 24; refine HTE.out.mono ?_; rintro e w4 ⟨⟨g1, cap1, rfl, hg1, hpk⟩, k4⟩)
  have HP4 := Lib.hid (HP3.out.below k4)
  have HB4 := Lib.hid (HB3.out.trans (k4.mono HB3.out.size))
  have HPK : Hid (PkAt w4 g1 cap1 (tellP 1 (ahead))) := Lib.hid hpk
  clear k4 hpk HP3 HB3 HTE
  (try dsimp only)
  refine hK.out _ _ ?_ (fun hHeld => ?_)
  · exact HP4.out.q2
  clear hK K
  (try simp only [Act.put, List.setIfInBounds_toArray, List.set_cons_zero, List.set_cons_succ, List.getElem_toArray, List.getElem_cons_succ, List.getElem_cons_zero])
  have HH1 := Lib.hid (ntp_hear_b HP4.out.P ((newK_ok 0 3 (by omega) (by omega)).ask (by decide) 0 (by omega) 0 (by omega)) (by omega) 0 (by omega) 0 (by have := HBD.out; omega) HPK.out (tell_ok 1 (ahead) (by omega)))
  rw [HK1.out] at HH1
  refine wpAnyH_ready (rs := [12]) (by kernel_rfl) (by simp) ?_
  refine AllReadyH.cons rfl (fun K hK => ?_) (AllReadyH.nil)
  go_simp
  (go_at_call 17; refine HH1.out.mono ?_; rintro e w5 ⟨rfl, hn5, hf5⟩)
  have HP5 := Lib.hid (HP4.out.onP hn5 hf5)
  have HB5 := Lib.hid (HB4.out.trans (hf5.below (fun k hk => by unfold Ft at hk; omega) HB4.out.size))
  clear hn5 hf5 HP4 HB4 HPK HH1
  (try dsimp only)
  refine hK.out _ _ ?_ (fun hHeld => ?_)
  · exact HP5.out.q2
  clear hK K
  (try simp only [Act.put, List.setIfInBounds_toArray, List.set_cons_zero, List.set_cons_succ, List.getElem_toArray, List.getElem_cons_succ, List.getElem_cons_zero])
  refine wpAnyH_take (i := 13) (v := ?_) rfl (by kernel_rfl) (by kernel_rfl) (by kernel_rfl) (fun _ _ _ h => h) (Or.inl ⟨by rfl, ?_⟩) (by assumption) ?_
  rotate_left
  · intro w' hSw; (try dsimp only at hSw); go_simp; (try with_reducible rfl)
  (try simp only [Act.put, List.setIfInBounds_toArray, List.set_cons_zero, List.set_cons_succ, List.getElem_toArray, List.getElem_cons_succ, List.getElem_cons_zero])
  refine wpAnyH_take (i := 14) (v := ?_) rfl (by kernel_rfl) (by kernel_rfl) (by kernel_rfl) (fun _ _ _ h => h) (Or.inl ⟨by rfl, ?_⟩) (by assumption) ?_
  rotate_left
  · intro w' hSw; (try dsimp only at hSw); go_simp; (try with_reducible rfl)
  (try simp only [Act.put, List.setIfInBounds_toArray, List.set_cons_zero, List.set_cons_succ, List.getElem_toArray, List.getElem_cons_succ, List.getElem_cons_zero])
  refine wpAnyH_done (by kernel_rfl) ?_ _
  clear hHeld
  have p4 := HP5.out.q4
  have f4 := HP5.out.qf 4
  have p2 := HP5.out.q2
  have lbq := HP5.out.ql
  go_wp2_with fail
  clear p4 f4 p2 lbq
  have HP6 := Lib.hid (HP5.out.cnt age)
  have HB6 := Lib.hid (HB5.out.setCell (p := ⟨bp, 4, none⟩) (by show w.heap.size ≤ bp; omega) (.int .i64 age))
  clear HP5 HB5
  generalize w5.setCell ⟨bp, 4, none⟩ (.int .i64 age) = w6 at *
  refine wp_region_held_drew (S := fun w' => w'.cell? ⟨bp, 2, none⟩ = some (.pointer (some ⟨b, 0, none⟩))) (by kernel_rfl) ?_ (fun hHeld => ?_)
  · exact HP6.out.q2
  have HPv := Lib.hid (HP6.out.below (w' := w6.drew) ((Below.refl _ _).drew))
  have HBv := Lib.hid HB6.out.drew
  clear HP6 HB6
  generalize w6.drew = V2 at *
  have HDO := Lib.hid (law_does1 HPv.out (HO1.out) ((newK_ok 0 3 (by omega) (by omega)).ask (by decide) 0 (by omega) 0 (by omega)) (rfl) (by rw [(old_n ahead).1]; omega) (by omega) 1 (by omega) (by have := HBD.out; omega) (by have := HBD.out; omega))
  refine wpAnyH_take (i := 0) (v := ?_) rfl (by kernel_rfl) (by kernel_rfl) (by kernel_rfl) (fun _ _ _ h => h) (Or.inl ⟨by rfl, ?_⟩) (by assumption) ?_
  rotate_left
  · intro w' hSw; (try dsimp only at hSw); go_simp; (try with_reducible rfl)
  (try simp only [Act.put, List.setIfInBounds_toArray, List.set_cons_zero, List.set_cons_succ, List.getElem_toArray, List.getElem_cons_succ, List.getElem_cons_zero])
  refine wpAnyH_take (i := 1) (v := ?_) rfl (by kernel_rfl) (by kernel_rfl) (by kernel_rfl) (fun _ _ _ h => h) (Or.inl ⟨by rfl, ?_⟩) (by assumption) ?_
  rotate_left
  · intro w' hSw; (try dsimp only at hSw); go_simp; (try with_reducible rfl)
  (try simp only [Act.put, List.setIfInBounds_toArray, List.set_cons_zero, List.set_cons_succ, List.getElem_toArray, List.getElem_cons_succ, List.getElem_cons_zero])
  refine wpAnyH_ready (rs := [2]) (by kernel_rfl) (by simp) ?_
  refine AllReadyH.cons rfl (fun K hK => ?_) (AllReadyH.nil)
  go_simp
  (go_at_call 13; refine HDO.out.mono ?_; rintro e w7 ⟨rfl, hp7, hf7⟩)
  have HP7 : Hid (Pr w7 bp b bc bs A1 c1 rb rbc rbs A2 c2 ⟨B0, 0, none⟩ 3 3 21167 zt 3 m0 m1 m2 (askK (oldK ahead) 1 age) (askK kn1 1 age) age (updI (updI (fun _ => 0) 0 1) 1 2) (updI (updI (fun _ => 0) 0 0) 1 age)) := Lib.hid hp7
  have HB7 := Lib.hid (HBv.out.trans (hf7.below (fun k hk => by omega) HBv.out.size))
  have lbp7 := HP7.out.ql
  clear hp7 hf7 HPv HBv HDO
  (try dsimp only)
  refine hK.out _ _ ?_ (fun hHeld => ?_)
  · exact HP7.out.q2
  clear hK K
  (try simp only [Act.put, List.setIfInBounds_toArray, List.set_cons_zero, List.set_cons_succ, List.getElem_toArray, List.getElem_cons_succ, List.getElem_cons_zero])
  have HTE := Lib.hid (law_tells HP7.out 1 (by omega) (ahead + age) (by have := HBD.out; omega) (by have := HBD.out; omega) (by simp [updI]))
  refine wpAnyH_take (i := 3) (v := ?_) rfl (by kernel_rfl) (by kernel_rfl) (by kernel_rfl) (fun _ _ _ h => h) (Or.inl ⟨by rfl, ?_⟩) (by assumption) ?_
  rotate_left
  · intro w' hSw; (try dsimp only at hSw); go_simp; (try with_reducible rfl)
  (try simp only [Act.put, List.setIfInBounds_toArray, List.set_cons_zero, List.set_cons_succ, List.getElem_toArray, List.getElem_cons_succ, List.getElem_cons_zero])
  refine wpAnyH_take (i := 4) (v := ?_) rfl (by kernel_rfl) (by kernel_rfl) (by kernel_rfl) (fun _ _ _ h => h) (Or.inl ⟨by rfl, ?_⟩) (by assumption) ?_
  rotate_left
  · intro w' hSw; (try dsimp only at hSw); go_simp; (try with_reducible rfl)
  (try simp only [Act.put, List.setIfInBounds_toArray, List.set_cons_zero, List.set_cons_succ, List.getElem_toArray, List.getElem_cons_succ, List.getElem_cons_zero])
  refine wpAnyH_take (i := 5) (v := ?_) rfl (by kernel_rfl) (by kernel_rfl) (by kernel_rfl) (fun _ _ _ h => h) (Or.inl ⟨by rfl, ?_⟩) (by assumption) ?_
  rotate_left
  · intro w' hSw; (try dsimp only at hSw); go_simp; (try with_reducible rfl)
  (try simp only [Act.put, List.setIfInBounds_toArray, List.set_cons_zero, List.set_cons_succ, List.getElem_toArray, List.getElem_cons_succ, List.getElem_cons_zero])
  refine wpAnyH_take (i := 6) (v := ?_) rfl (by kernel_rfl) (by kernel_rfl) (by kernel_rfl) (fun _ _ _ h => h) (Or.inl ⟨by rfl, ?_⟩) (by assumption) ?_
  rotate_left
  · intro w' hSw; (try dsimp only at hSw); go_simp; (try with_reducible rfl)
  (try simp only [Act.put, List.setIfInBounds_toArray, List.set_cons_zero, List.set_cons_succ, List.getElem_toArray, List.getElem_cons_succ, List.getElem_cons_zero])
  refine wpAnyH_take (i := 7) (v := ?_) rfl (by kernel_rfl) (by kernel_rfl) (by kernel_rfl) (fun _ _ _ h => h) (Or.inl ⟨by rfl, ?_⟩) (by assumption) ?_
  rotate_left
  · intro w' hSw; (try dsimp only at hSw); go_simp; (try with_reducible rfl)
  (try simp only [Act.put, List.setIfInBounds_toArray, List.set_cons_zero, List.set_cons_succ, List.getElem_toArray, List.getElem_cons_succ, List.getElem_cons_zero])
  refine wpAnyH_take (i := 8) (v := ?_) rfl (by kernel_rfl) (by kernel_rfl) (by kernel_rfl) (fun _ _ _ h => h) (Or.inl ⟨by rfl, ?_⟩) (by assumption) ?_
  rotate_left
  · intro w' hSw; (try dsimp only at hSw); go_simp; (try with_reducible rfl)
  (try simp only [Act.put, List.setIfInBounds_toArray, List.set_cons_zero, List.set_cons_succ, List.getElem_toArray, List.getElem_cons_succ, List.getElem_cons_zero])
  refine wpAnyH_take (i := 9) (v := ?_) rfl (by kernel_rfl) (by kernel_rfl) (by kernel_rfl) (fun _ _ _ h => h) (Or.inl ⟨by rfl, ?_⟩) (by assumption) ?_
  rotate_left
  · intro w' hSw; (try dsimp only at hSw); go_simp; (try with_reducible rfl)
  (try simp only [Act.put, List.setIfInBounds_toArray, List.set_cons_zero, List.set_cons_succ, List.getElem_toArray, List.getElem_cons_succ, List.getElem_cons_zero])
  refine wpAnyH_take (i := 10) (v := ?_) rfl (by kernel_rfl) (by kernel_rfl) (by kernel_rfl) (fun _ _ _ h => h) (Or.inl ⟨by rfl, ?_⟩) (by assumption) ?_
  rotate_left
  · intro w' hSw; (try dsimp only at hSw); go_simp; (try with_reducible rfl)
  (try simp only [Act.put, List.setIfInBounds_toArray, List.set_cons_zero, List.set_cons_succ, List.getElem_toArray, List.getElem_cons_succ, List.getElem_cons_zero])
  refine wpAnyH_take (i := 11) (v := ?_) rfl (by kernel_rfl) (by kernel_rfl) (by kernel_rfl) (fun _ _ _ h => h) (Or.inl ⟨by rfl, ?_⟩) (by assumption) ?_
  rotate_left
  · intro w' hSw; (try dsimp only at hSw); go_simp; (try with_reducible rfl)
  (try simp only [Act.put, List.setIfInBounds_toArray, List.set_cons_zero, List.set_cons_succ, List.getElem_toArray, List.getElem_cons_succ, List.getElem_cons_zero])
  refine wpAnyH_take (i := 12) (v := ?_) rfl (by kernel_rfl) (by kernel_rfl) (by kernel_rfl) (fun _ _ _ h => h) (Or.inl ⟨by rfl, ?_⟩) (by assumption) ?_
  rotate_left
  · intro w' hSw; (try dsimp only at hSw); go_simp; (try with_reducible rfl)
  (try simp only [Act.put, List.setIfInBounds_toArray, List.set_cons_zero, List.set_cons_succ, List.getElem_toArray, List.getElem_cons_succ, List.getElem_cons_zero])
  refine wpAnyH_take (i := 13) (v := ?_) rfl (by kernel_rfl) (by kernel_rfl) (by kernel_rfl) (fun _ _ _ h => h) (Or.inl ⟨by rfl, ?_⟩) (by assumption) ?_
  rotate_left
  · intro w' hSw; (try dsimp only at hSw); go_simp; (try with_reducible rfl)
  (try simp only [Act.put, List.setIfInBounds_toArray, List.set_cons_zero, List.set_cons_succ, List.getElem_toArray, List.getElem_cons_succ, List.getElem_cons_zero])
  refine wpAnyH_ready (rs := [14]) (by kernel_rfl) (by simp) ?_
  refine AllReadyH.cons rfl (fun K hK => ?_) (AllReadyH.nil)
  go_simp
  (go_at_call 24; refine HTE.out.mono ?_; rintro e w8 ⟨⟨g2, cap2, rfl, hg2, hpk⟩, k4⟩)
  have HP8 := Lib.hid (HP7.out.below k4)
  have HB8 := Lib.hid (HB7.out.trans (k4.mono HB7.out.size))
  have HPK : Hid (PkAt w8 g2 cap2 (tellP 2 (ahead + age))) := Lib.hid hpk
  clear k4 hpk HP7 HB7 HTE
  (try dsimp only)
  refine hK.out _ _ ?_ (fun hHeld => ?_)
  · exact HP8.out.q2
  clear hK K
  (try simp only [Act.put, List.setIfInBounds_toArray, List.set_cons_zero, List.set_cons_succ, List.getElem_toArray, List.getElem_cons_succ, List.getElem_cons_zero])
  have HH1 := Lib.hid (ntp_hear_b HP8.out.P (HO1.out.ask (by rw [(old_n ahead).1]; decide) 1 (by omega) age (by have := HBD.out; omega)) (by omega) 1 (by omega) age (by have := HBD.out; omega) HPK.out (tell_ok 2 (ahead + age) (by omega)))
  rw [HK4.out.1] at HH1
  refine wpAnyH_ready (rs := [15]) (by kernel_rfl) (by simp) ?_
  refine AllReadyH.cons rfl (fun K hK => ?_) (AllReadyH.nil)
  go_simp
  (go_at_call 17; refine HH1.out.mono ?_; rintro e w9 ⟨rfl, hn9, hf9⟩)
  have HP9 := Lib.hid (HP8.out.onP hn9 hf9)
  have HB9 := Lib.hid (HB8.out.trans (hf9.below (fun k hk => by unfold Ft at hk; omega) HB8.out.size))
  clear hn9 hf9 HP8 HB8 HPK HH1
  (try dsimp only)
  refine hK.out _ _ ?_ (fun hHeld => ?_)
  · exact HP9.out.q2
  clear hK K
  (try simp only [Act.put, List.setIfInBounds_toArray, List.set_cons_zero, List.set_cons_succ, List.getElem_toArray, List.getElem_cons_succ, List.getElem_cons_zero])
  refine wpAnyH_take (i := 16) (v := ?_) rfl (by kernel_rfl) (by kernel_rfl) (by kernel_rfl) (fun _ _ _ h => h) (Or.inl ⟨by rfl, ?_⟩) (by assumption) ?_
  rotate_left
  · intro w' hSw; (try dsimp only at hSw); go_simp; (try with_reducible rfl)
  (try simp only [Act.put, List.setIfInBounds_toArray, List.set_cons_zero, List.set_cons_succ, List.getElem_toArray, List.getElem_cons_succ, List.getElem_cons_zero])
  refine wpAnyH_take (i := 17) (v := ?_) rfl (by kernel_rfl) (by kernel_rfl) (by kernel_rfl) (fun _ _ _ h => h) (Or.inl ⟨by rfl, ?_⟩) (by assumption) ?_
  rotate_left
  · intro w' hSw; (try dsimp only at hSw); go_simp; (try with_reducible rfl)
  (try simp only [Act.put, List.setIfInBounds_toArray, List.set_cons_zero, List.set_cons_succ, List.getElem_toArray, List.getElem_cons_succ, List.getElem_cons_zero])
  refine wpAnyH_done (by kernel_rfl) ?_ _
  clear hHeld
  have p4 := HP9.out.q4
  have f4 := HP9.out.qf 4
  have p2 := HP9.out.q2
  have lbq := HP9.out.ql
  have HSY := Lib.hid (ntp_synced HP9.out.P)
  rw [HK4.out.2] at HSY
  have p2 := HP9.out.q2
  rcases hcs with ⟨rfl, t5⟩ | ⟨rfl, t5⟩
  all_goals
    go_wp2_with (first | (go_at_call 22; refine HSY.out.mono ?_; rintro e w' ⟨rfl, rfl⟩) | (go_at_call 12; refine (HKN.out _).mono ?_; rintro e wk ⟨rfl, k9⟩))
    go_ret
    exact ⟨rfl, HB9.out.trans (k9.mono HB9.out.size)⟩
set_option maxRecDepth 100000 in
theorem ntpOld_lifted (os : Os) (started : os.Started) (H : Type) (enc : TypeId × Value → H) :
    ReturnsInHanded {} Tryz.checked os 8 .any (Rows.ntpOldSpec.pre6 enc Tryz.prog Tryz.f8 Rows.ntpOldRow.domain false) (Rows.ntpOldSpec.post enc Tryz.prog Tryz.f8 false true false false) := by
  refine returnsInHanded_of_change_sized (C := Tryz.checked) law_own started (by kernel_rfl) Tryz.func8
    (ChangeSpec.witness6 (enc := enc) (C := Tryz.checked) false ⟨#[], #[.int .i64 0, .int .i64 0], []⟩ 8 (by kernel_rfl) (by kernel_rfl) (by kernel_rfl) (by kernel_rfl)) ?_
  intro W base args ds gs before hval0 hW hcnd hsz0 _
  have hval : ∀ (j : Nat) t v, Tryz.f8.params[j]? = some t → args[j]? = some v → Value.okWide Tryz.prog W .any base t v := hval0
  have hsz : (DataW.weightsEach Tryz.prog (Tryz.f8.params.toList ++ Rows.ntpOldSpec.plain.varTypes Tryz.prog) (ds ++ gs)).all (· ≤ reachBytes) = true := hsz0
  have hW' := hW
  obtain ⟨p, q, hA0, hV, rfl, hfz, hnd⟩ := hW
  have hA : DataW.TrodAll enc Tryz.prog W 0 (fun _ => true) true Tryz.f8.params.toList args.toList ds p := hA0
  rw [Tryz.params8] at hA hval hsz
  have hsame : (Rows.ntpOldSpec.fn H (ds ++ gs)).results = [.lit (.bool true)] ∧ (Rows.ntpOldSpec.fn H (ds ++ gs)).args = ds ∧ (Rows.ntpOldSpec.fn H (ds ++ gs)).vars = [] → ∀ W', Below W.heap.size W W' → Rows.ntpOldSpec.post enc Tryz.prog Tryz.f8 false true false false W args (.bool true) W' :=
    fun h W' hb => law_post (tb := 4) hW' law_laid (by kernel_rfl) rfl Tryz.underlying4 h.1 h.2.1 rfl h.2.2 hb
  obtain ⟨v0, vs0, d0, ds0, p0, q0, hargs, rfl, rfl, h0, r0⟩ := trodAll_cons hA
  obtain ⟨v1, vs1, d1, ds1, p1, q1, rfl, rfl, rfl, h1, r1⟩ := trodAll_cons r0
  obtain ⟨rfl, rfl, rfl⟩ := trodAll_nil r1
  obtain rfl : args = #[v0, v1] := by cases args; simp_all
  obtain ⟨rfl, rfl⟩ := trodVars_none hV
  have hpost := hsame ⟨rfl, rfl, rfl⟩
  clear hsame hA0 hval0 hsz0
  obtain ⟨a0, rfl, rfl, rfl, wf0⟩ := open_int Tryz.underlying3 (hval 0 3 v0 rfl rfl) h0
  obtain ⟨a1, rfl, rfl, rfl, wf1⟩ := open_int Tryz.underlying3 (hval 1 3 v1 rfl rfl) h1
  have hw : Calls Tryz.prog 8 #[.int .i64 a0, .int .i64 a1] W fun e w' => e = .returned (.bool true) ∧ Below W.heap.size W w' := by
    by_cases h : 0 ≤ a0 ∧ a0 ≤ 35184372088832 ∧ 1125899906842624 ≤ a1 ∧ a1 ≤ 1152921504606846976
    · exact old_in a0 a1 W h.1 h.2.1 h.2.2.1 h.2.2.2
    · exact old_out a0 a1 W (by omega)
  exact (hw).mono fun e W' ⟨he, hb⟩ => ⟨_, he, hpost W' hb⟩
theorem ntpOld_holds : Rows.NtpOldSaid :=
  OpenClaim.holds_of_wide 8 Tryz.f8 rfl rfl rfl rfl rfl rfl rfl ⟨rfl, rfl, rfl, rfl, rfl⟩ rfl rfl rfl rfl rfl (by kernel_rfl) Tryz.func8 (by kernel_rfl)
    (of_decide_eq_true (by kernel_rfl)) (by unfold Func.isWrapper; first | (rw [if_pos (by decide +kernel)]; kernel_rfl) | (rw [if_neg (by decide +kernel)]; exact ⟨rfl, rfl⟩))
    (fun os started H enc _ => ntpOld_lifted os started H enc)
end Go.Proofs.YtepdnkpmkhjlgaaGreat
