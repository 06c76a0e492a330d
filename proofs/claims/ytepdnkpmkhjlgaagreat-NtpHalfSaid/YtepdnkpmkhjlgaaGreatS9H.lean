/- Stage 9: NtpHalf: what half of all servers say turns nothing, and one more, that says the same, does: for every two numbers. -/
import Derived.Test.YtepdnkpmkhjlgaaGreatM9P
set_option linter.unusedSimpArgs false
set_option linter.unusedVariables false
namespace Go.Proofs.YtepdnkpmkhjlgaaGreat
open Go.ChangeShapes Go.WideShapes Go.ChangeAt Go.RowKit Go.Joins Go.Sort

theorem half_out (half ahead : Int) (w : World) (h : half < 1 ∨ (1 ≤ half ∧ 4 < half) ∨ (1 ≤ half ∧ half ≤ 4 ∧ ahead < 1099511627776) ∨ (1 ≤ half ∧ half ≤ 4 ∧ 1099511627776 ≤ ahead ∧ 1152921504606846976 < ahead)) :
    Calls Tryz.prog 7 #[.int .i64 half, .int .i64 ahead] w fun e w' => e = .returned (.bool true) ∧ Below w.heap.size w w' := by
  have HK := Lib.hid (known9 w)
  have hcs : decide (half < 1) = true ∨ (decide (half < 1) = false ∧ decide (half > 4) = true) ∨ (decide (half < 1) = false ∧ decide (half > 4) = false ∧ decide (ahead < 1099511627776) = true) ∨ (decide (half < 1) = false ∧ decide (half > 4) = false ∧ decide (ahead < 1099511627776) = false ∧ decide (ahead > 1152921504606846976) = true) := by
    simp only [decide_eq_true_eq, decide_eq_false_iff_not]
    omega
  clear h
  rcases hcs with t1 | ⟨t1, t2⟩ | ⟨t1, t2, t3⟩ | ⟨t1, t2, t3, t4⟩
  all_goals
    go_enter Tryz.func7, Tryz.ntmps7
    go_wp2_with (go_at_call 12; refine HK.out.mono ?_; rintro e w9 ⟨rfl, k9⟩)
    go_ret
    exact ⟨rfl, k9⟩
/-- The first j servers told the same. -/
def hfK (ahead : Int) (j : Nat) : Cs := ⟨0, 0, 0, fun i => if i < j then ⟨0, 0, true, 0, ahead - 1, ahead + 1⟩ else ⟨0, 0, false, 0, 0, 0⟩, j, 0⟩
/-- The document's client was asked as often. -/
def hfR : Nat → Cs
  | 0 => newK 0
  | j + 1 => askK (hfR j) j 0
theorem hfR_n : ∀ j, (hfR j).n = j
  | 0 => rfl
  | j + 1 => by show (hfR j).n + 1 = _; rw [hfR_n j]; omega
theorem hfR_ok (N : Nat) (hN : N ≤ 8) : ∀ j, j ≤ N → (hfR j).Ok N
  | 0, _ => newK_ok 0 N (by omega) (by omega)
  | j + 1, hj => (hfR_ok N hN j (by omega)).ask (by rw [hfR_n]; omega) j (by omega) 0 (by omega)
theorem hfK_ok (ahead : Int) (a0 : 1099511627776 ≤ ahead) (a1 : ahead ≤ 1152921504606846976) (N : Nat) (j : Nat) (hj : j ≤ 8) : (hfK ahead j).Ok N :=
  ⟨by unfold hfK Ok3; simp, fun i _ => by
    by_cases h : i < j
    · have e : (hfK ahead j).S i = ⟨0, 0, true, 0, ahead - 1, ahead + 1⟩ := by simp [hfK, h]
      rw [e]
      exact ⟨by simp, by simp, by simp, by simp, by simp, by simp, by unfold I64; simp only; omega, by unfold I64; simp only; omega⟩
    · have e : (hfK ahead j).S i = ⟨0, 0, false, 0, 0, 0⟩ := by simp [hfK, h]
      rw [e]
      exact ⟨by simp, by simp, by simp, by simp, by simp, by simp, by simp [I64], by simp [I64]⟩, by unfold hfK; simp, by unfold hfK; simp; omega, by simp [hfK], by simp [hfK]⟩
theorem hf_cand (ahead : Int) (m : Nat) : ∀ k, cand (hfK ahead m).S 0 k = List.replicate (min m k) (ahead - 1, ahead + 1)
  | 0 => by simp [cand]
  | k + 1 => by
    unfold cand
    rw [hf_cand ahead m k]
    by_cases h : k < m
    · have e : (hfK ahead m).S k = ⟨0, 0, true, 0, ahead - 1, ahead + 1⟩ := by simp [hfK, h]
      rw [e]
      simp only [frB]
      rw [show min m k = k from by omega, show min m (k + 1) = k + 1 from by omega, List.replicate_succ']
      simp
    · have e : (hfK ahead m).S k = ⟨0, 0, false, 0, 0, 0⟩ := by simp [hfK, h]
      rw [e]
      simp only [frB]
      rw [show min m k = m from by omega, show min m (k + 1) = m from by omega]
      simp
theorem hf_step (ahead : Int) (j : Nat) : smpK (readK (clrK (askK (hfK ahead j) j 0) j) 0) j 0 (ahead - 1) (ahead + 1) = hfK ahead (j + 1) := by
  have e1 : rc 0 0 = 0 := by decide
  have e2 : rt 0 0 0 0 = 0 := by decide
  have e3 : rl 0 0 0 = 0 := by decide
  unfold smpK readK clrK askK readK hfK
  simp only [e1, e2, e3]
  congr 1
  funext i
  simp only [updS]
  by_cases h : i = j
  · subst h
    simp
  · by_cases h2 : i < j
    · simp [h, h2, show i < j + 1 from by omega]
    · simp [h, h2, show ¬ i < j + 1 from by omega]
theorem hf_hear (ahead : Int) (a0 : 1099511627776 ≤ ahead) (a1 : ahead ≤ 1152921504606846976) (N j : Nat) : hearK rstP zt 3 21167 N (askK (hfK ahead j) j 0) j 0 (tellP ((j : Int) + 1) ahead) = (0, turnK rstP (hfK ahead (j + 1)) N 0) := by
  have e2 : rt 0 0 0 0 = 0 := by decide
  have e1 : rc 0 0 = 0 := by decide
  have e3 : rl 0 0 0 = 0 := by decide
  have h := hear_told rstP N (askK (hfK ahead j) j 0) j 0 ((j : Int) + 1) ahead 0 0 (by simp [askK, updS, hfK]) (by omega) (by simp [askK, updS, hfK, e2]) (by simp [askK, readK, hfK, e1, e2, e3]) (by omega) (by omega) (by omega) (by omega) (by omega)
  rw [if_pos (by omega), show (2 * ahead - 0 - 0) / 2 - ((0 - 0) / 2 + 1) = ahead - 1 from by omega, show (2 * ahead - 0 - 0) / 2 + ((0 - 0) / 2 + 1) = ahead + 1 from by omega, hf_step] at h
  exact h
theorem hf_stay (ahead : Int) (hf m : Nat) (h0 : 0 < m) (h : m ≤ hf) : turnK rstP (hfK ahead m) (2 * hf) 0 = hfK ahead m := by
  unfold turnK
  rw [hf_cand, mostP_eq (most_rep (ahead - 1) (ahead + 1) (by omega) (min m (2 * hf)) (by omega)), if_pos (by show 2 * min m (2 * hf) ≤ 2 * hf; omega)]
theorem hf_turn (ahead : Int) (a0 : 1099511627776 ≤ ahead) (a1 : ahead ≤ 1152921504606846976) (hf : Nat) (h1 : 1 ≤ hf) : turnK rstP (hfK ahead (hf + 1)) (2 * hf) 0 = ⟨0, ahead, 0, fun i => rstP ((hfK ahead (hf + 1)).S i), (hf : Int) + 1, 1⟩ := by
  unfold turnK
  rw [hf_cand, mostP_eq (most_rep (ahead - 1) (ahead + 1) (by omega) (min (hf + 1) (2 * hf)) (by omega)), if_neg (by show ¬ 2 * min (hf + 1) (2 * hf) ≤ 2 * hf; omega)]
  have e : addS (ahead - 1) (ahead + 1) / 2 = ahead := by rw [addS_in (by omega) (by omega)]; omega
  simp only [e]
  have e1 : tt (hfK ahead (hf + 1)).t ahead = ahead := by unfold tt; rw [if_pos (by omega)]; show addS 0 ahead = ahead; rw [addS_in (by omega) (by omega)]; omega
  have e2 : tl ahead = 0 := by unfold tl; rw [if_pos (by omega)]
  rw [e1, e2]
  simp [hfK]
theorem ntp_sample_no {w : World} {b bc bs : Nat} {A : Option Addr} {n cc : Nat} {x : Int} {z : Nat → Int} {N : Nat} {K : Cs} (h : Nc layP w b bc bs A n cc x z N K) (i : Nat) (hi : i < N) (hh : (K.S i).has = false) :
    Calls Tryz.prog 23 #[.pointer (some ⟨b, 0, none⟩), .int .i64 i] w fun e w' => e = .returned (.tuple #[.agg #[.int .i64 0, .int .i64 0], .bool false]) ∧ Below w.heap.size w w' := by
  have X := Ints2.new w 0 0 67
  have HX := Lib.hid (And.intro X.c0 X.c1)
  have kk : Below w.heap.size w (w.alloc (.cells #[.int .i64 0, .int .i64 0] 67)) := by (repeat' (first | (with_reducible exact Below.refl _ _) | (with_reducible assumption) | (with_reducible refine Below.trans ?_ (Below.mono (by with_reducible assumption) ?_)) | (with_reducible refine Below.alloc ?_ ?_ _) | (with_reducible refine Below.setCell ?_ ?_ _) | (with_reducible refine below_drewN ?_ _) | (with_reducible refine Below.drew ?_) | go_size))
  have HB := Lib.hid kk
  have h1 := h.below kk
  have HH := Lib.hid (ntp_has h1 i hi)
  have c3 := h1.c3
  have x2 := (h1.six i hi).2.2.1
  rw [hh] at x2
  have li : (i : Int) < (N : Int) := by omega
  clear X kk h1 h hh
  go_enter Tryz.func23, Tryz.ntmps23
  go_wp2_with fail
  refine HH.out.mono ?_; rintro e w' ⟨rfl, rfl⟩
  go_wp2_with fail
  have j0 := HX.out.1
  have j1 := HX.out.2
  refine bodyPost_ret (v := .tuple #[.agg #[.int .i64 0, .int .i64 0], .bool false]) (by simp [results, Tryz.results23, go_sem, j0, j1]) rfl ⟨rfl, HB.out⟩
/-- The state when j rounds are through. -/
noncomputable def hfS (ahead : Int) (hf j : Nat) : Cs := if j ≤ hf then hfK ahead j else ⟨0, ahead, 0, fun i => rstP ((hfK ahead (hf + 1)).S i), (hf : Int) + 1, 1⟩
set_option maxRecDepth 100000 in
set_option maxHeartbeats 16000000 in
theorem half_in (hf : Nat) (ahead : Int) (w : World) (d0 : 1 ≤ hf) (d1 : hf ≤ 4) (a0 : 1099511627776 ≤ ahead) (a1 : ahead ≤ 1152921504606846976) :
    Calls Tryz.prog 7 #[.int .i64 hf, .int .i64 ahead] w fun e w' => e = .returned (.bool true) ∧ Below w.heap.size w w' := by
  have HTB := Lib.hid (table4 w)
  have HKN := Lib.hid (fun W : World => known9 W)
  have t1 : decide ((hf : Int) < 1) = false := by simp; omega
  have t2 : decide ((hf : Int) > 4) = false := by simp; omega
  have t3 : decide (ahead < 1099511627776) = false := by simp; omega
  have t4 : decide (ahead > 1152921504606846976) = false := by simp; omega
  have wm : IntKind.i64.wrap (2 * (hf : Int)) = 2 * (hf : Int) := IntWalk.i64_in _ (by omega)
  have HBD := Lib.hid (And.intro d0 (And.intro d1 (And.intro a0 a1)))
  clear a0 a1
  go_enter Tryz.func7, Tryz.ntmps7
  go_wp2_with fail
  refine HTB.out.mono ?_; rintro e w1 ⟨B0, rfl, hb1, hf1⟩
  have HST : Hid (Calls Tryz.prog 11 #[.agg #[.slice (some ⟨B0, 0, none⟩) 3 3, .int .i64 21167], .int .i64 (2 * (hf : Int)), .int .i64 0] w1 fun e w' => StartPost w1 ⟨B0, 0, none⟩ 3 3 21167 zt (2 * hf) 0 e w' ∧ Below w1.heap.size w1 w') := Lib.hid (by
    have := law_start ⟨B0, 0, none⟩ 3 3 21167 zt (2 * hf) 0 w1 hf1 zt_tab (by omega) (by omega) (by omega) (by omega)
    rwa [show ((2 * hf : Nat) : Int) = 2 * (hf : Int) from by omega] at this)
  have HB1 := Lib.hid hb1
  clear hb1 hf1 HTB t1 t2 t3 t4
  go_wp2_with fail
  refine HST.out.mono ?_; rintro e w2 ⟨⟨bp, b, bc, bs, A1, c1, rb, rbc, rbs, A2, c2, m1, m2, rfl, hpr, hm1, hm2⟩, hb2⟩
  have HB2 := Lib.hid (HB1.out.trans (hb2.mono HB1.out.size))
  have p2 := hpr.q2
  have hm0 : w.heap.size ≤ w1.heap.size := HB1.out.size
  have hr1 := hpr.r1
  have hr3 := hpr.r3
  obtain ⟨m0, hm0e⟩ : ∃ m0, w1.heap.size = m0 := ⟨_, rfl⟩
  rw [hm0e] at hpr hm0 hm1 hr1
  have e0 : hfS ahead hf 0 = newK 0 := by unfold hfS; rw [if_pos (Nat.zero_le _)]; simp [hfK, newK]
  have HP2 : Hid (Pr w2 bp b bc bs A1 c1 rb rbc rbs A2 c2 ⟨B0, 0, none⟩ 3 3 21167 zt (2 * hf) m0 m1 m2 (hfS ahead hf 0) (hfR 0) 0 (fun _ => 0) (fun _ => 0)) := Lib.hid (by rw [e0]; exact hpr)
  clear hb2 hpr HST HB1 hm0e e0
  go_wp2_with fail
  clear p2
  go_loopw [7] (fun i wr => ∃ j : Nat, j ≤ hf + 1 ∧ i = .int .i64 j ∧ (∃ (ask0 when0 : Nat → Int), Pr wr bp b bc bs A1 c1 rb rbc rbs A2 c2 ⟨B0, 0, none⟩ 3 3 21167 zt (2 * hf) m0 m1 m2 (hfS ahead hf j) (hfR j) 0 ask0 when0) ∧ Below w.heap.size w wr) (fun i _ => hf + 1 - (intOf i).toNat)
  case atStart => exact ⟨0, by omega, rfl, ⟨_, _, HP2.out⟩, HB2.out⟩
  case round =>
    obtain ⟨j, hj, rfl, ⟨ask0, when0, hp⟩, HB⟩ := hrel
    clear HP2 HB2
    have HB2 := Lib.hid HB
    have lbp := hp.ql
    clear HB
    by_cases hlt : j ≤ hf
    · have es : hfS ahead hf j = hfK ahead j := by unfold hfS; rw [if_pos hlt]
      rw [es] at hp
      have HP2 := Lib.hid hp
      have p2 := hp.q2
      have c0 := hp.P.c0
      have HSY := Lib.hid (ntp_synced hp.P)
      have HRD := Lib.hid (slew_read_old bc 0 0 0 0 wr hp.P.clk (by omega))
      have lj : (j : Int) ≤ (hf : Int) := by omega
      have lj2 : (j : Int) < 2 * (hf : Int) := by omega
      clear hp es
      have hsy : (hfK ahead j).syn = 0 := rfl
      rw [hsy] at HSY
      clear hsy
      go_wp2_with (first | (go_at_call 22; refine HSY.out.mono ?_; rintro e w' ⟨rfl, rfl⟩) | (go_at_call 21; refine HRD.out.mono ?_; rintro e w' ⟨rfl, rfl⟩))
      clear p2 c0
      refine wp_region_held_drew (S := fun w' => w'.cell? ⟨bp, 2, none⟩ = some (.pointer (some ⟨b, 0, none⟩))) (by kernel_rfl) ?_ (fun hHeld => ?_)
      · exact HP2.out.q2
      have HPv := Lib.hid (HP2.out.below (w' := wr.drew) ((Below.refl _ _).drew))
      have HBv := Lib.hid HB2.out.drew
      clear HP2 HB2
      generalize wr.drew = V1 at *
      have HDO := Lib.hid (law_does1 HPv.out (hfK_ok ahead HBD.out.2.2.1 HBD.out.2.2.2 (2 * hf) j (by omega)) (hfR_ok (2 * hf) (by omega) j (by omega)) (hfR_n j) (by show (j : Int) < _; omega) (by omega) j (by omega) (by omega) (by omega))
      refine wpAnyH_take (i := 0) (v := ?_) rfl (by kernel_rfl) (by kernel_rfl) (by kernel_rfl) (fun _ _ _ h => h) (Or.inl ⟨by rfl, ?_⟩) (by assumption) ?_
      rotate_left
      · intro w' hSw; (try dsimp only at hSw); go_simp; (try with_reducible rfl)
      (try simp only [Act.put, List.setIfInBounds_toArray, List.set_cons_zero, List.set_cons_succ, List.getElem_toArray, List.getElem_cons_succ, List.getElem_cons_zero])
      refine wpAnyH_take (i := 1) (v := ?_) rfl (by kernel_rfl) (by kernel_rfl) (by kernel_rfl) (fun _ _ _ h => h) (Or.inl ⟨by rfl, ?_⟩) (by assumption) ?_
      rotate_left
      · intro w' hSw; (try dsimp only at hSw); go_simp; (try with_reducible rfl)
      (try simp only [Act.put, List.setIfInBounds_toArray, List.set_cons_zero, List.set_cons_succ, List.getElem_toArray, List.getElem_cons_succ, List.getElem_cons_zero])
      refine wpAnyH_take (i := 2) (v := ?_) rfl (by kernel_rfl) (by kernel_rfl) (by kernel_rfl) (fun _ _ _ h => h) (Or.inl ⟨by rfl, ?_⟩) (by assumption) ?_
      rotate_left
      · intro w' hSw; (try dsimp only at hSw); go_simp; (try with_reducible rfl)
      (try simp only [Act.put, List.setIfInBounds_toArray, List.set_cons_zero, List.set_cons_succ, List.getElem_toArray, List.getElem_cons_succ, List.getElem_cons_zero])
      refine wpAnyH_ready (rs := [3]) (by kernel_rfl) (by simp) ?_
      refine AllReadyH.cons rfl (fun K hK => ?_) (AllReadyH.nil)
      go_simp
      (go_at_call 13; refine HDO.out.mono ?_; rintro e w3 ⟨rfl, hp3, hf3⟩)
      have HP3 := Lib.hid hp3
      have HB3 := Lib.hid (HBv.out.trans (hf3.below (fun k hk => by omega) HBv.out.size))
      clear hp3 hf3 HPv HBv HDO
      (try dsimp only)
      refine hK.out _ _ ?_ (fun hHeld => ?_)
      · exact HP3.out.q2
      clear hK K
      (try simp only [Act.put, List.setIfInBounds_toArray, List.set_cons_zero, List.set_cons_succ, List.getElem_toArray, List.getElem_cons_succ, List.getElem_cons_zero])
      have eas : updI ask0 j ((hfK ahead j).n + 1) j = (j : Int) + 1 := by simp [updI, hfK]
      have HTE0 := law_tells HP3.out j (by omega) ahead (by have := HBD.out; omega) (by have := HBD.out; omega) (by rw [eas]; omega)
      rw [eas] at HTE0
      have HTE := Lib.hid HTE0
      clear HTE0 eas
      refine wpAnyH_take (i := 4) (v := ?_) rfl (by kernel_rfl) (by kernel_rfl) (by kernel_rfl) (fun _ _ _ h => h) (Or.inl ⟨by rfl, ?_⟩) (by assumption) ?_
      rotate_left
      · intro w' hSw; (try dsimp only at hSw); go_simp; (try with_reducible rfl)
      (try simp only [Act.put, List.setIfInBounds_toArray, List.set_cons_zero, List.set_cons_succ, List.getElem_toArray, List.getElem_cons_succ, List.getElem_cons_zero])
      refine wpAnyH_take (i := 5) (v := ?_) rfl (by kernel_rfl) (by kernel_rfl) (by kernel_rfl) (fun _ _ _ h => h) (Or.inl ⟨by rfl, ?_⟩) (by assumption) ?_
      rotate_left
      · intro w' hSw; (try dsimp only at hSw); go_simp; (try with_reducible rfl)
      (try simp only [Act.put, List.setIfInBounds_toArray, List.set_cons_zero, List.set_cons_succ, List.getElem_toArray, List.getElem_cons_succ, List.getElem_cons_zero])
      refine wpAnyH_take (i := 6) (v := ?_) rfl (by kernel_rfl) (by kernel_rfl) (by kernel_rfl) (fun _ _ _ h => h) (Or.inl ⟨by rfl, ?_⟩) (by assumption) ?_
      rotate_left
      · intro w' hSw; (try dsimp only at hSw); go_simp; (try with_reducible rfl)
      (try simp only [Act.put, List.setIfInBounds_toArray, List.set_cons_zero, List.set_cons_succ, List.getElem_toArray, List.getElem_cons_succ, List.getElem_cons_zero])
      refine wpAnyH_take (i := 7) (v := ?_) rfl (by kernel_rfl) (by kernel_rfl) (by kernel_rfl) (fun _ _ _ h => h) (Or.inl ⟨by rfl, ?_⟩) (by assumption) ?_
      rotate_left
      · intro w' hSw; (try dsimp only at hSw); go_simp; (try with_reducible rfl)
      (try simp only [Act.put, List.setIfInBounds_toArray, List.set_cons_zero, List.set_cons_succ, List.getElem_toArray, List.getElem_cons_succ, List.getElem_cons_zero])
      refine wpAnyH_take (i := 8) (v := ?_) rfl (by kernel_rfl) (by kernel_rfl) (by kernel_rfl) (fun _ _ _ h => h) (Or.inl ⟨by rfl, ?_⟩) (by assumption) ?_
      rotate_left
      · intro w' hSw; (try dsimp only at hSw); go_simp; (try with_reducible rfl)
      (try simp only [Act.put, List.setIfInBounds_toArray, List.set_cons_zero, List.set_cons_succ, List.getElem_toArray, List.getElem_cons_succ, List.getElem_cons_zero])
      refine wpAnyH_take (i := 9) (v := ?_) rfl (by kernel_rfl) (by kernel_rfl) (by kernel_rfl) (fun _ _ _ h => h) (Or.inl ⟨by rfl, ?_⟩) (by assumption) ?_
      rotate_left
      · intro w' hSw; (try dsimp only at hSw); go_simp; (try with_reducible rfl)
      (try simp only [Act.put, List.setIfInBounds_toArray, List.set_cons_zero, List.set_cons_succ, List.getElem_toArray, List.getElem_cons_succ, List.getElem_cons_zero])
      refine wpAnyH_take (i := 10) (v := ?_) rfl (by kernel_rfl) (by kernel_rfl) (by kernel_rfl) (fun _ _ _ h => h) (Or.inl ⟨by rfl, ?_⟩) (by assumption) ?_
      rotate_left
      · intro w' hSw; (try dsimp only at hSw); go_simp; (try with_reducible rfl)
      (try simp only [Act.put, List.setIfInBounds_toArray, List.set_cons_zero, List.set_cons_succ, List.getElem_toArray, List.getElem_cons_succ, List.getElem_cons_zero])
      refine wpAnyH_take (i := 11) (v := ?_) rfl (by kernel_rfl) (by kernel_rfl) (by kernel_rfl) (fun _ _ _ h => h) (Or.inl ⟨by rfl, ?_⟩) (by assumption) ?_
      rotate_left
      · intro w' hSw; (try dsimp only at hSw); go_simp; (try with_reducible rfl)
      (try simp only [Act.put, List.setIfInBounds_toArray, List.set_cons_zero, List.set_cons_succ, List.getElem_toArray, List.getElem_cons_succ, List.getElem_cons_zero])
      refine wpAnyH_take (i := 12) (v := ?_) rfl (by kernel_rfl) (by kernel_rfl) (by kernel_rfl) (fun _ _ _ h => h) (Or.inl ⟨by rfl, ?_⟩) (by assumption) ?_
      rotate_left
      · intro w' hSw; (try dsimp only at hSw); go_simp; (try with_reducible rfl)
      (try simp only [Act.put, List.setIfInBounds_toArray, List.set_cons_zero, List.set_cons_succ, List.getElem_toArray, List.getElem_cons_succ, List.getElem_cons_zero])
      refine wpAnyH_take (i := 13) (v := ?_) rfl (by kernel_rfl) (by kernel_rfl) (by kernel_rfl) (fun _ _ _ h => h) (Or.inl ⟨by rfl, ?_⟩) (by assumption) ?_
      rotate_left
      · intro w' hSw; (try dsimp only at hSw); go_simp; (try with_reducible rfl)
      (try simp only [Act.put, List.setIfInBounds_toArray, List.set_cons_zero, List.set_cons_succ, List.getElem_toArray, List.getElem_cons_succ, List.getElem_cons_zero])
      refine wpAnyH_ready (rs := [14]) (by kernel_rfl) (by simp) ?_
      refine AllReadyH.cons rfl (fun K hK => ?_) (AllReadyH.nil)
      go_simp
      (go_at_call 24; refine HTE.out.mono ?_; rintro e w4 ⟨⟨g1, cap1, rfl, hg1, hpk⟩, k4⟩)
      have HP4 := Lib.hid (HP3.out.below k4)
      have HB4 := Lib.hid (HB3.out.trans (k4.mono HB3.out.size))
      have HPK : Hid (PkAt w4 g1 cap1 (tellP ((j : Int) + 1) ahead)) := Lib.hid hpk
      clear k4 hpk HP3 HB3 HTE
      (try dsimp only)
      refine hK.out _ _ ?_ (fun hHeld => ?_)
      · exact HP4.out.q2
      clear hK K
      (try simp only [Act.put, List.setIfInBounds_toArray, List.set_cons_zero, List.set_cons_succ, List.getElem_toArray, List.getElem_cons_succ, List.getElem_cons_zero])
      have HH1 := Lib.hid (ntp_hear_b HP4.out.P ((hfK_ok ahead HBD.out.2.2.1 HBD.out.2.2.2 (2 * hf) j (by omega)).ask (by show (j : Int) < _; omega) j (by omega) 0 (by omega)) (by omega) j (by omega) 0 (by omega) HPK.out (tell_ok ((j : Int) + 1) ahead (by omega)))
      rw [hf_hear ahead HBD.out.2.2.1 HBD.out.2.2.2 (2 * hf) j] at HH1
      refine wpAnyH_ready (rs := [15]) (by kernel_rfl) (by simp) ?_
      refine AllReadyH.cons rfl (fun K hK => ?_) (AllReadyH.nil)
      go_simp
      (go_at_call 17; refine HH1.out.mono ?_; rintro e w5 ⟨rfl, hn5, hf5⟩)
      have HP5 := Lib.hid (HP4.out.onP hn5 hf5)
      have HB5 := Lib.hid (HB4.out.trans (hf5.below (fun k hk => by unfold Ft at hk; omega) HB4.out.size))
      clear hn5 hf5 HP4 HB4 HPK HH1
      (try dsimp only)
      refine hK.out _ _ ?_ (fun hHeld => ?_)
      · exact HP5.out.q2
      clear hK K
      (try simp only [Act.put, List.setIfInBounds_toArray, List.set_cons_zero, List.set_cons_succ, List.getElem_toArray, List.getElem_cons_succ, List.getElem_cons_zero])
      refine wpAnyH_take (i := 16) (v := ?_) rfl (by kernel_rfl) (by kernel_rfl) (by kernel_rfl) (fun _ _ _ h => h) (Or.inl ⟨by rfl, ?_⟩) (by assumption) ?_
      rotate_left
      · intro w' hSw; (try dsimp only at hSw); go_simp; (try with_reducible rfl)
      (try simp only [Act.put, List.setIfInBounds_toArray, List.set_cons_zero, List.set_cons_succ, List.getElem_toArray, List.getElem_cons_succ, List.getElem_cons_zero])
      refine wpAnyH_take (i := 17) (v := ?_) rfl (by kernel_rfl) (by kernel_rfl) (by kernel_rfl) (fun _ _ _ h => h) (Or.inl ⟨by rfl, ?_⟩) (by assumption) ?_
      rotate_left
      · intro w' hSw; (try dsimp only at hSw); go_simp; (try with_reducible rfl)
      (try simp only [Act.put, List.setIfInBounds_toArray, List.set_cons_zero, List.set_cons_succ, List.getElem_toArray, List.getElem_cons_succ, List.getElem_cons_zero])
      refine wpAnyH_done (by kernel_rfl) ?_ _
      clear hHeld
      have est : turnK rstP (hfK ahead (j + 1)) (2 * hf) 0 = hfS ahead hf (j + 1) := by
        unfold hfS
        by_cases h : j + 1 ≤ hf
        · rw [if_pos h, hf_stay ahead hf (j + 1) (by omega) h]
        · obtain rfl : j = hf := by omega
          rw [if_neg h, hf_turn ahead HBD.out.2.2.1 HBD.out.2.2.2 j (by omega)]
      rw [est] at HP5
      clear est
      go_wp2_with fail
      go_roundw
      case rel => exact ⟨j + 1, by omega, by go_num, ⟨_, _, HP5.out⟩, HB5.out⟩
      all_goals (simp [intOf]; omega)

    · obtain rfl : j = hf + 1 := by omega
      have es : hfS ahead hf (hf + 1) = ⟨0, ahead, 0, fun i => rstP ((hfK ahead (hf + 1)).S i), (hf : Int) + 1, 1⟩ := by unfold hfS; rw [if_neg (by omega)]
      rw [es] at hp
      have HP2 := Lib.hid hp
      have p2 := hp.q2
      have c0 := hp.P.c0
      have lj : ¬ (((hf + 1 : Nat) : Int) ≤ (hf : Int)) := by omega
      have HRD := Lib.hid (slew_read_old bc 0 ahead 0 0 wr hp.P.clk (by omega))
      have HSM := Lib.hid (ntp_sample_no hp.P 0 (by omega) rfl)
      have ws : IntKind.i64.wrap (ahead - ahead) = 0 := by rw [Int.sub_self]; decide
      clear es hp
      go_wp2_with fail
      refine HRD.out.mono ?_; rintro e w' ⟨rfl, rfl⟩
      go_wp2_with fail
      refine HSM.out.mono ?_; rintro e w5 ⟨rfl, k5⟩
      have k6 := k5.alloc k5.size (.cells #[.int .i64 0, .int .i64 0] 67)
      have HP6 := Lib.hid (HP2.out.below k6)
      have HB6 := Lib.hid (HB2.out.trans (k6.mono HB2.out.size))
      have p2 := HP6.out.q2
      have HSY := Lib.hid (ntp_synced HP6.out.P)
      simp only at HSY
      clear k5 k6 c0 HP2 HB2
      go_wp2_with (first | (go_at_call 22; refine HSY.out.mono ?_; rintro e w' ⟨rfl, rfl⟩) | (go_at_call 12; refine (HKN.out _).mono ?_; rintro e wk ⟨rfl, k9⟩))
      go_ret
      exact ⟨rfl, HB6.out.trans (k9.mono HB6.out.size)⟩
set_option maxRecDepth 100000 in
theorem ntpHalf_lifted (os : Os) (started : os.Started) (H : Type) (enc : TypeId × Value → H) :
    ReturnsInHanded {} Tryz.checked os 7 .any (Rows.ntpHalfSpec.pre6 enc Tryz.prog Tryz.f7 Rows.ntpHalfRow.domain false) (Rows.ntpHalfSpec.post enc Tryz.prog Tryz.f7 false true false false) := by
  refine returnsInHanded_of_change_sized (C := Tryz.checked) law_own started (by kernel_rfl) Tryz.func7
    (ChangeSpec.witness6 (enc := enc) (C := Tryz.checked) false ⟨#[], #[.int .i64 0, .int .i64 0], []⟩ 8 (by kernel_rfl) (by kernel_rfl) (by kernel_rfl) (by kernel_rfl)) ?_
  intro W base args ds gs before hval0 hW hcnd hsz0 _
  have hval : ∀ (j : Nat) t v, Tryz.f7.params[j]? = some t → args[j]? = some v → Value.okWide Tryz.prog W .any base t v := hval0
  have hsz : (DataW.weightsEach Tryz.prog (Tryz.f7.params.toList ++ Rows.ntpHalfSpec.plain.varTypes Tryz.prog) (ds ++ gs)).all (· ≤ reachBytes) = true := hsz0
  have hW' := hW
  obtain ⟨p, q, hA0, hV, rfl, hfz, hnd⟩ := hW
  have hA : DataW.TrodAll enc Tryz.prog W 0 (fun _ => true) true Tryz.f7.params.toList args.toList ds p := hA0
  rw [Tryz.params7] at hA hval hsz
  have hsame : (Rows.ntpHalfSpec.fn H (ds ++ gs)).results = [.lit (.bool true)] ∧ (Rows.ntpHalfSpec.fn H (ds ++ gs)).args = ds ∧ (Rows.ntpHalfSpec.fn H (ds ++ gs)).vars = [] → ∀ W', Below W.heap.size W W' → Rows.ntpHalfSpec.post enc Tryz.prog Tryz.f7 false true false false W args (.bool true) W' :=
    fun h W' hb => law_post (tb := 4) hW' law_laid (by kernel_rfl) rfl Tryz.underlying4 h.1 h.2.1 rfl h.2.2 hb
  obtain ⟨v0, vs0, d0, ds0, p0, q0, hargs, rfl, rfl, h0, r0⟩ := trodAll_cons hA
  obtain ⟨v1, vs1, d1, ds1, p1, q1, rfl, rfl, rfl, h1, r1⟩ := trodAll_cons r0
  obtain ⟨rfl, rfl, rfl⟩ := trodAll_nil r1
  obtain rfl : args = #[v0, v1] := by cases args; simp_all
  obtain ⟨rfl, rfl⟩ := trodVars_none hV
  have hpost := hsame ⟨rfl, rfl, rfl⟩
  clear hsame hA0 hval0 hsz0
  obtain ⟨a0, rfl, rfl, rfl, wf0⟩ := open_int Tryz.underlying3 (hval 0 3 v0 rfl rfl) h0
  obtain ⟨a1, rfl, rfl, rfl, wf1⟩ := open_int Tryz.underlying3 (hval 1 3 v1 rfl rfl) h1
  have hw : Calls Tryz.prog 7 #[.int .i64 a0, .int .i64 a1] W fun e w' => e = .returned (.bool true) ∧ Below W.heap.size W w' := by
    by_cases h : 1 ≤ a0 ∧ a0 ≤ 4 ∧ 1099511627776 ≤ a1 ∧ a1 ≤ 1152921504606846976
    · obtain ⟨q, hq⟩ := Int.eq_ofNat_of_zero_le (show 0 ≤ a0 by omega)
      subst hq
      exact half_in q a1 W (by omega) (by omega) h.2.2.1 h.2.2.2
    · exact half_out a0 a1 W (by omega)
  exact (hw).mono fun e W' ⟨he, hb⟩ => ⟨_, he, hpost W' hb⟩
theorem ntpHalf_holds : Rows.NtpHalfSaid :=
  OpenClaim.holds_of_wide 7 Tryz.f7 rfl rfl rfl rfl rfl rfl rfl ⟨rfl, rfl, rfl, rfl, rfl⟩ rfl rfl rfl rfl rfl (by kernel_rfl) Tryz.func7 (by kernel_rfl)
    (of_decide_eq_true (by kernel_rfl)) (by unfold Func.isWrapper; first | (rw [if_pos (by decide +kernel)]; kernel_rfl) | (rw [if_neg (by decide +kernel)]; exact ⟨rfl, rfl⟩))
    (fun os started H enc _ => ntpHalf_lifted os started H enc)
end Go.Proofs.YtepdnkpmkhjlgaaGreat
