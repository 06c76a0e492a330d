/- Stage 21: LeaseFull: no more than so many leases are held at once; one that is closed makes room: for every two numbers. -/
import Derived.Test.YtacchkokbibeaaaLsFull
import Derived.Test.YtacchkokbibeaaaStampArg
set_option linter.unusedSimpArgs false
set_option linter.unusedVariables false
namespace Go.Proofs.Ytacchkokbibeaaa
open Go.ChangeShapes Go.WideShapes Go.ChangeAt Go.RowKit Go.Joins

def mkL (k : Nat) : List Le := (List.range k).map fun (i : Nat) => ⟨(i : Int), (i : Int), 0, 9⟩
theorem mkL_len (k : Nat) : (mkL k).length = k := by simp [mkL]
theorem mkL_at {k j : Nat} (h : j < k) : (mkL k)[j]? = some ⟨(j : Int), (j : Int), 0, 9⟩ := by simp [mkL, h]
theorem mkL_succ (k : Nat) : mkL (k + 1) = mkL k ++ [⟨(k : Int), (k : Int), 0, 9⟩] := by simp [mkL, List.range_succ]
theorem mkL_mem {k : Nat} {y : Le} (h : y ∈ mkL k) : 0 ≤ y.id ∧ y.id < k := by
  simp [mkL] at h
  obtain ⟨a, ha, rfl⟩ := h
  simp; omega
theorem mkL_rise (k : Nat) : Rise (mkL k) := by
  induction k with
  | zero => show List.Pairwise _ []; exact List.Pairwise.nil
  | succ k ih => rw [mkL_succ]; exact ih.snoc fun y hy => (mkL_mem hy).2
theorem mkL_rm_yes {h c : Nat} (hc : c < h) : (rm (mkL h) c).length = h - 1 := by
  have := erase_rm (mkL_rise h) (mkL_at hc)
  simp only at this
  rw [← this, List.length_eraseIdx, mkL_len, if_pos hc]
theorem mkL_rm_no {h c : Nat} (hc : h ≤ c) : (rm (mkL h) c).length = h := by
  rw [rm_none (fun y hy e => by have := mkL_mem hy; omega), mkL_len]
theorem stamp_ok (k : Nat) (hk : k ≤ 100) : isStampB (k : Int) 0 = true := by simp [isStampB, isMilliB]; omega
/-- What the loop keeps. -/
def FullRel (b B0 : Nat) (k : Nat) (w wr : World) : Prop := ∃ v, Ls wr b v (mkL (min k 64)) ((min k 64 : Nat) : Int) ∧ Below B0 w wr ∧ (∀ i, v.ownBlock = some i → B0 ≤ i)
theorem full_out (n c : Int) (w : World) (h : n < 0 ∨ 100 < n ∨ c < 0 ∨ 100 < c) :
    Calls Try.prog 5 #[.int .i64 n, .int .i64 c] w fun e w' => e = .returned (.bool true) ∧ Below w.heap.size w w' := by
  rcases (show decide (n < 0) = true ∨ (decide (n < 0) = false ∧ decide (100 < n) = true) ∨ (decide (n < 0) = false ∧ decide (100 < n) = false ∧ decide (c < 0) = true) ∨ (decide (n < 0) = false ∧ decide (100 < n) = false ∧ decide (c < 0) = false ∧ decide (100 < c) = true) from by simp only [decide_eq_true_eq, decide_eq_false_iff_not]; omega) with k1 | ⟨k1, k2⟩ | ⟨k1, k2, k3⟩ | ⟨k1, k2, k3, k4⟩
  all_goals
    clear h
    go_enter Try.func5, Try.ntmps5
    go_wp2_with (go_at_call 23; refine (known21 _).mono ?_; rintro e w5 ⟨rfl, hb5⟩; obtain ⟨hc5, hf5⟩ := bcell hb5; have hz5 := hb5.size; (try simp only [World.size_alloc, World.size_setCell, World.heap_drewN] at hb5 hc5 hf5 hz5); (try have ha05 : w.heap.size < w5.heap.size := by omega); (try have ha15 : w.heap.size + 1 < w5.heap.size := by omega); (try have ha25 : w.heap.size + 2 < w5.heap.size := by omega); (try have hal5 : w.heap.size ≤ w5.heap.size := by omega); (try have ham5 : w.heap.size < w5.heap.size + 2 := by omega))
    go_ret
    go_light
    exact ⟨rfl, by (repeat' (first | (with_reducible exact Below.refl _ _) | (with_reducible assumption) | (with_reducible refine Below.trans ?_ (Below.mono (by with_reducible assumption) ?_)) | (with_reducible refine Below.alloc ?_ ?_ _) | (with_reducible refine Below.setCell ?_ ?_ _) | (with_reducible refine below_drewN ?_ _) | (with_reducible refine Below.drew ?_) | go_size))⟩
/-- The end, behind the loop: three ways. -/
structure FullEnd (N C : Nat) (k : Int) (ok : Bool) : Prop where
  k : k = if C < min N 64 then 1 else 0
set_option maxRecDepth 100000 in
set_option maxHeartbeats 8000000 in
theorem full_in (N C : Nat) (w : World) (hN : N ≤ 100) (hC : C ≤ 100) :
    Calls Try.prog 5 #[.int .i64 N, .int .i64 C] w fun e w' => e = .returned (.bool true) ∧ Below w.heap.size w w' := by
  have k1 : decide ((N : Int) < 0) = false := by simp only [decide_eq_false_iff_not]; omega
  have k2 : decide ((100 : Int) < N) = false := by simp only [decide_eq_false_iff_not]; omega
  have k3 : decide ((C : Int) < 0) = false := by simp only [decide_eq_false_iff_not]; omega
  have k4 : decide ((100 : Int) < C) = false := by simp only [decide_eq_false_iff_not]; omega
  have R0 : Hid (FullRel w.heap.size w.heap.size 0 w (w.alloc (.cells #[.slice none 0 0, .int .i64 0] 60))) := ⟨.slice none 0 0, (by rw [show min 0 64 = 0 from rfl]; exact ls_new w), by (repeat' (first | (with_reducible exact Below.refl _ _) | (with_reducible assumption) | (with_reducible refine Below.trans ?_ (Below.mono (by with_reducible assumption) ?_)) | (with_reducible refine Below.alloc ?_ ?_ _) | (with_reducible refine Below.setCell ?_ ?_ _) | (with_reducible refine below_drewN ?_ _) | (with_reducible refine Below.drew ?_) | go_size)), fun i hi => by simp [Value.ownBlock] at hi⟩
  go_enter Try.func5, Try.ntmps5
  go_wp2_with fail
  refine (lease_new _).mono ?_; rintro e w' ⟨rfl, rfl⟩
  go_wp2_with fail
  go_loopw [6] (fun i wr => ∃ k : Nat, k ≤ N ∧ i = .int .i64 k ∧ FullRel w.heap.size w.heap.size k w wr) (fun i _ => N - (intOf i).toNat)
  case atStart => exact ⟨0, Nat.zero_le _, rfl, R0.out⟩
  case round =>
    obtain ⟨k, hk, rfl, v, H, HB, hv⟩ := hrel
    clear R0
    have hlen : (mkL (min k 64)).length = min k 64 := mkL_len _
    have HS := Lib.hid H
    have HV := Lib.hid hv
    by_cases hlt : k < N
    · by_cases hf : k < 64
      · have hf' : decide ((k : Int) < 64) = true := by simp only [decide_eq_true_eq]; omega
        have hmin : min k 64 = k := by omega
        rw [hmin] at H hlen
        have HO := Lib.hid (ls_open w.heap.size v (mkL k) k k 0 9 wr H (stamp_ok k (by omega)) (by omega) (by rw [hlen]; exact hf) (by omega) (by omega))
        clear H hlen hv hmin
        go_wp2_with fail
        refine HO.out.mono ?_; rintro e w2 ⟨rfl, v', H2, hb2, hfr⟩
        have HR : Hid (FullRel w.heap.size w.heap.size (k + 1) w w2) := by
          refine ⟨v', ?_, HB.trans (hb2.below (fun i hi => ?_) HB.size), fun i hi => ?_⟩
          · rw [show min (k + 1) 64 = k + 1 from by omega, mkL_succ]; exact_mod_cast H2
          · rcases hi with rfl | hi
            · exact Nat.le_refl _
            · exact HV.out i hi
          · rcases hfr i hi with h | h
            · exact HV.out i h
            · exact Nat.le_trans HB.size h
        clear H2 hb2 hfr
        go_wp2
        go_roundw
        case rel => exact ⟨k + 1, by omega, by go_num, HR.out⟩
        case measure => simp [intOf]; omega
      · have hf' : decide ((k : Int) < 64) = false := by simp only [decide_eq_false_iff_not]; omega
        have hmin : min k 64 = 64 := by omega
        rw [hmin] at H hlen
        have HO := Lib.hid (ls_open_full w.heap.size v (mkL 64) (64 : Nat) k 0 9 wr H (stamp_ok k (by omega)) (by omega) (by rw [hlen]; omega))
        have HS' := Lib.hid H
        clear H hlen hv hmin
        go_wp2_with fail
        refine HO.out.mono ?_; rintro e w2 ⟨rfl, hb2⟩
        have HR : Hid (FullRel w.heap.size w.heap.size (k + 1) w w2) := ⟨v, by rw [show min (k + 1) 64 = 64 from by omega]; exact HS'.out.below hb2, HB.trans (hb2.mono HB.size), HV.out⟩
        clear hb2
        go_wp2
        go_roundw
        case rel => exact ⟨k + 1, by omega, by go_num, HR.out⟩
        case measure => simp [intOf]; omega
    · obtain rfl : k = N := by omega
      have H' := H.alloc (.cells #[.int .i64 C] 3)
      have HB' : Hid (Below w.heap.size w (wr.alloc (.cells #[.int .i64 C] 3))) := Lib.hid (HB.alloc HB.size _)
      have hfoot : ¬ Foot w.heap.size v wr.heap.size := by
        rintro (h | h)
        · have := H.lt; omega
        · have := (H.row.lt _ h).2; omega
      have HCL := Lib.hid (ls_close w.heap.size wr.heap.size 1 v _ _ [(C : Int)] (wr.alloc (.cells #[.int .i64 C] 3)) H' (mkL_rise _) (by rw [hlen]; omega) (by simp) (by
        intro j i hj
        cases j with
        | zero => simp at hj; subst hj; simp
        | succ j => simp at hj) hfoot (by simp))
      clear H H' hfoot hv
      go_wp2_with fail
      refine HCL.out.mono ?_; rintro e w2 ⟨rfl, v', H2, hb2, hvo⟩
      rw [hlen]
      have HB2 : Below w.heap.size w w2 := HB'.out.trans (hb2.below (fun i hi => by
        rcases hi with rfl | hi
        · exact Nat.le_refl _
        · exact HV.out i hi) HB'.out.size)
      have hv2 : ∀ i, v'.ownBlock = some i → w.heap.size ≤ i := fun i hi => HV.out i (by rw [← hvo]; exact hi)
      have HV2 := Lib.hid hv2
      have hcl : closeL (mkL (min k 64)) [(C : Int)] = rm (mkL (min k 64)) C := rfl
      rw [hcl] at H2
      rw [hcl]
      have HB2h := Lib.hid HB2
      clear hb2 hvo hv2 HCL HB'
      by_cases hc : C < min k 64
      · have hlr := mkL_rm_yes hc
        rw [hlr, show ((min k 64 : Nat) : Int) - ((min k 64 - 1 : Nat) : Int) = 1 from by omega]
        have HO := Lib.hid (ls_open w.heap.size v' _ _ 0 0 9 w2 H2 (by decide) (by omega) (by rw [hlr]; omega) (by omega) (by omega))
        clear H2 hlr hlen
        by_cases hk64 : 64 < k
        · have t1 : decide ((64 : Int) < k) = true := by simp only [decide_eq_true_eq]; omega
          have t1' : decide ((k : Int) < 64) = false := by simp only [decide_eq_false_iff_not]; omega
          have t2 : decide ((C : Int) < 64) = true := by simp only [decide_eq_true_eq]; omega
          go_wp2_with fail
          refine HO.out.mono ?_; rintro e w3 ⟨rfl, v3, H3, hb3, hfr⟩
          have HB3 := HB2h.out.trans (hb3.below (fun i hi => by
            rcases hi with rfl | hi
            · exact Nat.le_refl _
            · exact HV2.out i hi) HB2h.out.size)
          have z3 := HB3.size
          clear H3 hb3 hfr HB2
          go_wp2_with (go_at_call 23; refine (known21 _).mono ?_; rintro e w5 ⟨rfl, hb5⟩; obtain ⟨hc5, hf5⟩ := bcell hb5; have hz5 := hb5.size; (try simp only [World.size_alloc, World.size_setCell, World.heap_drewN] at hb5 hc5 hf5 hz5); (try have ha05 : w.heap.size < w5.heap.size := by omega); (try have ha15 : w.heap.size + 1 < w5.heap.size := by omega); (try have ha25 : w.heap.size + 2 < w5.heap.size := by omega); (try have hal5 : w.heap.size ≤ w5.heap.size := by omega); (try have ham5 : w.heap.size < w5.heap.size + 2 := by omega); (try have hb05 : w3.heap.size < w5.heap.size := by omega); (try have hb15 : w3.heap.size + 1 < w5.heap.size := by omega); (try have hb25 : w3.heap.size + 2 < w5.heap.size := by omega); (try have hbl5 : w3.heap.size ≤ w5.heap.size := by omega); (try have hbm5 : w3.heap.size < w5.heap.size + 2 := by omega))
          go_ret
          go_light
          exact ⟨rfl, by (repeat' (first | (with_reducible exact Below.refl _ _) | (with_reducible assumption) | (with_reducible refine Below.trans ?_ (Below.mono (by with_reducible assumption) ?_)) | (with_reducible refine Below.alloc ?_ ?_ _) | (with_reducible refine Below.setCell ?_ ?_ _) | (with_reducible refine below_drewN ?_ _) | (with_reducible refine Below.drew ?_) | go_size))⟩
        · have t1 : decide ((64 : Int) < k) = false := by simp only [decide_eq_false_iff_not]; omega
          have t2 : decide ((C : Int) < (k : Int)) = true := by simp only [decide_eq_true_eq]; omega
          have t2' : C < k := by omega
          have t3 : IntKind.i64.wrap ((k : Int) - 1) = (k : Int) - 1 := IntWalk.i64_in _ (by omega)
          have t4 : decide ((k : Int) - 1 < 64) = true := by simp only [decide_eq_true_eq]; omega
          go_wp2_with fail
          refine HO.out.mono ?_; rintro e w3 ⟨rfl, v3, H3, hb3, hfr⟩
          have HB3 := HB2h.out.trans (hb3.below (fun i hi => by
            rcases hi with rfl | hi
            · exact Nat.le_refl _
            · exact HV2.out i hi) HB2h.out.size)
          have z3 := HB3.size
          clear H3 hb3 hfr HB2
          rcases (show decide ((k : Int) < 64) = true ∨ decide ((k : Int) < 64) = false from by cases decide ((k : Int) < 64) <;> simp) with t5 | t5
          all_goals
            go_wp2_with (go_at_call 23; refine (known21 _).mono ?_; rintro e w5 ⟨rfl, hb5⟩; obtain ⟨hc5, hf5⟩ := bcell hb5; have hz5 := hb5.size; (try simp only [World.size_alloc, World.size_setCell, World.heap_drewN] at hb5 hc5 hf5 hz5); (try have ha05 : w.heap.size < w5.heap.size := by omega); (try have ha15 : w.heap.size + 1 < w5.heap.size := by omega); (try have ha25 : w.heap.size + 2 < w5.heap.size := by omega); (try have hal5 : w.heap.size ≤ w5.heap.size := by omega); (try have ham5 : w.heap.size < w5.heap.size + 2 := by omega); (try have hb05 : w3.heap.size < w5.heap.size := by omega); (try have hb15 : w3.heap.size + 1 < w5.heap.size := by omega); (try have hb25 : w3.heap.size + 2 < w5.heap.size := by omega); (try have hbl5 : w3.heap.size ≤ w5.heap.size := by omega); (try have hbm5 : w3.heap.size < w5.heap.size + 2 := by omega))
            go_ret
            go_light
            exact ⟨rfl, by (repeat' (first | (with_reducible exact Below.refl _ _) | (with_reducible assumption) | (with_reducible refine Below.trans ?_ (Below.mono (by with_reducible assumption) ?_)) | (with_reducible refine Below.alloc ?_ ?_ _) | (with_reducible refine Below.setCell ?_ ?_ _) | (with_reducible refine below_drewN ?_ _) | (with_reducible refine Below.drew ?_) | go_size))⟩
      · have hlr := mkL_rm_no (show min k 64 ≤ C by omega)
        rw [hlr, show ((min k 64 : Nat) : Int) - ((min k 64 : Nat) : Int) = 0 from by omega]
        by_cases hk64 : 64 ≤ k
        · have HO := Lib.hid (ls_open_full w.heap.size v' _ _ 0 0 9 w2 H2 (by decide) (by omega) (by rw [hlr]; omega))
          clear H2 hlr hlen
          have t2 : decide ((C : Int) < 64) = false := by simp only [decide_eq_false_iff_not]; omega
          rcases (show (decide ((64 : Int) < k) = true ∧ decide ((k : Int) ≤ 64) = false) ∨ (decide ((64 : Int) < k) = false ∧ k = 64) from by simp only [decide_eq_true_eq, decide_eq_false_iff_not]; omega) with ⟨t1, t1b⟩ | ⟨t1, rfl⟩
          all_goals
            have t1' : decide ((64 : Int) ≤ 64) = true := by decide
            go_wp2_with fail
            refine HO.out.mono ?_; rintro e w3 ⟨rfl, hb3⟩
            have HB3 := HB2h.out.trans (hb3.mono HB2h.out.size)
            have z3 := HB3.size
            clear hb3 HB2
            go_wp2_with (go_at_call 23; refine (known21 _).mono ?_; rintro e w5 ⟨rfl, hb5⟩; obtain ⟨hc5, hf5⟩ := bcell hb5; have hz5 := hb5.size; (try simp only [World.size_alloc, World.size_setCell, World.heap_drewN] at hb5 hc5 hf5 hz5); (try have ha05 : w.heap.size < w5.heap.size := by omega); (try have ha15 : w.heap.size + 1 < w5.heap.size := by omega); (try have ha25 : w.heap.size + 2 < w5.heap.size := by omega); (try have hal5 : w.heap.size ≤ w5.heap.size := by omega); (try have ham5 : w.heap.size < w5.heap.size + 2 := by omega); (try have hb05 : w3.heap.size < w5.heap.size := by omega); (try have hb15 : w3.heap.size + 1 < w5.heap.size := by omega); (try have hb25 : w3.heap.size + 2 < w5.heap.size := by omega); (try have hbl5 : w3.heap.size ≤ w5.heap.size := by omega); (try have hbm5 : w3.heap.size < w5.heap.size + 2 := by omega))
            all_goals first | (exfalso; simp only [decide_eq_false_iff_not] at t1b; omega) | (go_ret; go_light; exact ⟨rfl, by (repeat' (first | (with_reducible exact Below.refl _ _) | (with_reducible assumption) | (with_reducible refine Below.trans ?_ (Below.mono (by with_reducible assumption) ?_)) | (with_reducible refine Below.alloc ?_ ?_ _) | (with_reducible refine Below.setCell ?_ ?_ _) | (with_reducible refine below_drewN ?_ _) | (with_reducible refine Below.drew ?_) | go_size))⟩)
        · have HO := Lib.hid (ls_open w.heap.size v' _ _ 0 0 9 w2 H2 (by decide) (by omega) (by rw [hlr]; omega) (by omega) (by omega))
          clear H2 hlr hlen
          have t1 : decide ((64 : Int) < k) = false := by simp only [decide_eq_false_iff_not]; omega
          have t1' : decide ((k : Int) < 64) = true := by simp only [decide_eq_true_eq]; omega
          have t2 : decide ((C : Int) < (k : Int)) = false := by simp only [decide_eq_false_iff_not]; omega
          have t2' : ¬ C < k := by omega
          go_wp2_with fail
          refine HO.out.mono ?_; rintro e w3 ⟨rfl, v3, H3, hb3, hfr⟩
          have HB3 := HB2h.out.trans (hb3.below (fun i hi => by
            rcases hi with rfl | hi
            · exact Nat.le_refl _
            · exact HV2.out i hi) HB2h.out.size)
          have z3 := HB3.size
          clear H3 hb3 hfr HB2
          go_wp2_with (go_at_call 23; refine (known21 _).mono ?_; rintro e w5 ⟨rfl, hb5⟩; obtain ⟨hc5, hf5⟩ := bcell hb5; have hz5 := hb5.size; (try simp only [World.size_alloc, World.size_setCell, World.heap_drewN] at hb5 hc5 hf5 hz5); (try have ha05 : w.heap.size < w5.heap.size := by omega); (try have ha15 : w.heap.size + 1 < w5.heap.size := by omega); (try have ha25 : w.heap.size + 2 < w5.heap.size := by omega); (try have hal5 : w.heap.size ≤ w5.heap.size := by omega); (try have ham5 : w.heap.size < w5.heap.size + 2 := by omega); (try have hb05 : w3.heap.size < w5.heap.size := by omega); (try have hb15 : w3.heap.size + 1 < w5.heap.size := by omega); (try have hb25 : w3.heap.size + 2 < w5.heap.size := by omega); (try have hbl5 : w3.heap.size ≤ w5.heap.size := by omega); (try have hbm5 : w3.heap.size < w5.heap.size + 2 := by omega))
          go_ret
          go_light
          exact ⟨rfl, by (repeat' (first | (with_reducible exact Below.refl _ _) | (with_reducible assumption) | (with_reducible refine Below.trans ?_ (Below.mono (by with_reducible assumption) ?_)) | (with_reducible refine Below.alloc ?_ ?_ _) | (with_reducible refine Below.setCell ?_ ?_ _) | (with_reducible refine below_drewN ?_ _) | (with_reducible refine Below.drew ?_) | go_size))⟩
set_option maxRecDepth 100000 in
theorem leaseFull_lifted (os : Os) (started : os.Started) (H : Type) (enc : TypeId × Value → H) :
    ReturnsInHanded {} Try.checked os 5 .any (Rows.leaseFullSpec.pre6 enc Try.prog Try.f5 Rows.leaseFullRow.domain false) (Rows.leaseFullSpec.post enc Try.prog Try.f5 false true false false) := by
  refine returnsInHanded_of_change_sized (C := Try.checked) law_own started (by kernel_rfl) Try.func5
    (ChangeSpec.witness6 (enc := enc) (C := Try.checked) false ⟨#[], #[.int .i64 0, .int .i64 0], []⟩ 8 (by kernel_rfl) (by kernel_rfl) (by kernel_rfl) (by kernel_rfl)) ?_
  intro W base args ds gs before hval0 hW hcnd hsz0 _
  have hval : ∀ (j : Nat) t v, Try.f5.params[j]? = some t → args[j]? = some v → Value.okWide Try.prog W .any base t v := hval0
  have hsz : (DataW.weightsEach Try.prog (Try.f5.params.toList ++ Rows.leaseFullSpec.plain.varTypes Try.prog) (ds ++ gs)).all (· ≤ reachBytes) = true := hsz0
  have hW' := hW
  obtain ⟨p, q, hA0, hV, rfl, hfz, hnd⟩ := hW
  have hA : DataW.TrodAll enc Try.prog W 0 (fun _ => true) true Try.f5.params.toList args.toList ds p := hA0
  rw [Try.params5] at hA hval hsz
  have hsame : (Rows.leaseFullSpec.fn H (ds ++ gs)).results = [.lit (.bool true)] ∧ (Rows.leaseFullSpec.fn H (ds ++ gs)).args = ds ∧ (Rows.leaseFullSpec.fn H (ds ++ gs)).vars = [] → ∀ W', Below W.heap.size W W' → Rows.leaseFullSpec.post enc Try.prog Try.f5 false true false false W args (.bool true) W' :=
    fun h W' hb => law_post (tb := 4) hW' law_laid (by kernel_rfl) rfl Try.underlying4 h.1 h.2.1 rfl h.2.2 hb
  obtain ⟨v0, vs0, d0, ds0, p0, q0, hargs, rfl, rfl, h0, r0⟩ := trodAll_cons hA
  obtain ⟨v1, vs1, d1, ds1, p1, q1, rfl, rfl, rfl, h1, r1⟩ := trodAll_cons r0
  obtain ⟨rfl, rfl, rfl⟩ := trodAll_nil r1
  obtain rfl : args = #[v0, v1] := by cases args; simp_all
  obtain ⟨rfl, rfl⟩ := trodVars_none hV
  have hpost := hsame ⟨rfl, rfl, rfl⟩
  clear hsame hA0 hval0 hsz0
  obtain ⟨a0, rfl, rfl, rfl, wf0⟩ := open_int Try.underlying3 (hval 0 3 v0 rfl rfl) h0
  obtain ⟨a1, rfl, rfl, rfl, wf1⟩ := open_int Try.underlying3 (hval 1 3 v1 rfl rfl) h1
  by_cases h : 0 ≤ a0 ∧ a0 ≤ 100 ∧ 0 ≤ a1 ∧ a1 ≤ 100
  · obtain ⟨x1, x2, x3, x4⟩ := h
    obtain ⟨N, rfl⟩ := Int.eq_ofNat_of_zero_le x1
    obtain ⟨C, rfl⟩ := Int.eq_ofNat_of_zero_le x3
    exact (full_in N C W (by omega) (by omega)).mono fun e W' ⟨he, hb⟩ => ⟨_, he, hpost W' hb⟩
  · exact (full_out a0 a1 W (by omega)).mono fun e W' ⟨he, hb⟩ => ⟨_, he, hpost W' hb⟩
theorem leaseFull_holds : Rows.LeaseFullSaid :=
  OpenClaim.holds_of_wide 5 Try.f5 rfl rfl rfl rfl rfl rfl rfl ⟨rfl, rfl, rfl, rfl, rfl⟩ rfl rfl rfl rfl rfl (by kernel_rfl) Try.func5 (by kernel_rfl)
    (of_decide_eq_true (by kernel_rfl)) (by unfold Func.isWrapper; first | (rw [if_pos (by decide +kernel)]; kernel_rfl) | (rw [if_neg (by decide +kernel)]; exact ⟨rfl, rfl⟩))
    (fun os started H enc _ => leaseFull_lifted os started H enc)
end Go.Proofs.Ytacchkokbibeaaa
