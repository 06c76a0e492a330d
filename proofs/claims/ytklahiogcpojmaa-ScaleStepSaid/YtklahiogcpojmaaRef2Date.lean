/- The contract of meridianref2.Date. -/
import Derived.Test.YtklahiogcpojmaaRef2A
import Derived.Test.YtklahiogcpojmaaRef2In
set_option linter.unusedSimpArgs false
set_option linter.unusedVariables false
namespace Go.Proofs.Ytklahiogcpojmaa
open Go.RowKit

set_option maxHeartbeats 400000 in
theorem ref2_date_no (n : Int) (w : World) (h : n < -719162 ∨ 2932896 < n) :
    Calls Try.prog 47 #[.int .i64 n] w fun e w' => e = .returned (.tuple #[.agg #[.int .i64 0, .int .i64 0, .int .i64 0], .int .i64 11]) ∧ Below w.heap.size w w' := by
  have hB : (decide (-719162 ≤ n) && decide (n < 2932897)) = false := by
    rcases h with h | h
    · rw [decide_eq_false (by omega)]; rfl
    · rw [Bool.and_comm, decide_eq_false (by omega)]; rfl
  have hI : ∀ w : World, Calls Try.prog 36 #[.int .i64 n] w fun e w' => e = .returned (.bool false) ∧ w = w' := fun w => by have := ref2_in n w; rwa [hB] at this
  have HI := Lib.hid hI
  clear hI hB h
  go_enter Try.func47, Try.ntmps47
  go_wp2_with (go_at_call 36; refine (HI.out _).mono ?_; rintro e w' ⟨rfl, rfl⟩)
  refine bodyPost_ret (v := .tuple #[.agg #[.int .i64 0, .int .i64 0, .int .i64 0], .int .i64 11]) (by simp [results, Try.results47, go_sem]) rfl ⟨rfl, ?_⟩
  go_light
  (repeat' (first | (with_reducible exact Below.refl _ _) | (with_reducible assumption) | (with_reducible refine Below.trans ?_ (Below.mono (by with_reducible assumption) ?_)) | (with_reducible refine Below.alloc ?_ ?_ _) | (with_reducible refine Below.setCell ?_ ?_ _) | (with_reducible refine below_drewN ?_ _) | (with_reducible refine Below.drew ?_) | go_size))

theorem yr_guess (r : Int) (h0 : 0 ≤ r) (h1 : r < 3652059) : Cal.yr (r / 366 + 1) ≤ r := by unfold Cal.yr; omega
set_option maxHeartbeats 2000000 in
theorem ref2_date_yes (y m d n : Int) (w : World) (hv : Cal.Vld y m d) (hn : n = Cal.num y m d) :
    Calls Try.prog 47 #[.int .i64 n] w fun e w' => e = .returned (.tuple #[.agg #[.int .i64 y, .int .i64 m, .int .i64 d], .int .i64 0]) ∧ Below w.heap.size w w' := by
  have hb := Cal.num_bd hv
  rw [← hn] at hb
  obtain ⟨n0, n1⟩ := hb
  have HN := Lib.hid hn
  clear hn
  have hB : (decide (-719162 ≤ n) && decide (n < 2932897)) = true := by rw [decide_eq_true (by omega), decide_eq_true (by omega)]; rfl
  have hI : ∀ w : World, Calls Try.prog 36 #[.int .i64 n] w fun e w' => e = .returned (.bool true) ∧ w = w' := fun w => by have := ref2_in n w; rwa [hB] at this
  have HI := Lib.hid hI
  clear hI hB
  have g0 := yr_guess (n + 719162) (by omega) (by omega)
  have e1 := Lib.hid yr_1970
  have e2 := Lib.hid yr_10000
  go_enter Try.func47, Try.ntmps47
  go_wp2_with (first | (go_at_call 36; refine (HI.out _).mono ?_; rintro e w' ⟨rfl, rfl⟩) | (go_at_call 41; refine (ref2_year _ _ (by omega) (by omega)).mono ?_; rintro e w' ⟨rfl, rfl⟩; rw [e1.out]))
  clear HI
  go_loop [5] (fun t => ∃ k : Int, 1 ≤ k ∧ k ≤ 9999 ∧ Cal.yr k ≤ n + 719162 ∧ t = .int .i64 k) (fun t => (9999 - intOf t).toNat)
  case atStart => exact ⟨_, by omega, by omega, g0, rfl⟩
  case round =>
    obtain ⟨k, k0, k1, k2, rfl⟩ := hrel
    clear g0
    have yb := Cal.yr_bd k k0 (by omega)
    by_cases hc : Cal.yr (k + 1) ≤ n + 719162
    · have hlt : k < 9999 := by
        rcases (show k < 9999 ∨ k = 9999 from by omega) with h | h
        · exact h
        · subst h; have : Cal.yr (9999 + 1) = 3652059 := e2.out; omega
      go_wp2_with (go_at_call 41; refine (ref2_year _ _ (by omega) (by omega)).mono ?_; rintro e w' ⟨rfl, rfl⟩)
      go_round
      case rel => exact ⟨k + 1, by omega, by omega, hc, rfl⟩
      case measure => simp [intOf]; omega
    · have HS := Lib.hid (Cal.yr_succ k)
      have lp := Cal.lp_01 k
      go_wp2_with (go_at_call 41; refine (ref2_year _ _ (by omega) (by omega)).mono ?_; rintro e w' ⟨rfl, rfl⟩)
      go_loop [4, 6] (fun r t => ∃ mo : Int, 1 ≤ mo ∧ mo ≤ 12 ∧ Cal.cum k mo ≤ n + 719162 - Cal.yr k ∧ r = .int .i64 (n + 719162 - Cal.yr k - Cal.cum k mo) ∧ t = .int .i64 mo) (fun _ t => (12 - intOf t).toNat)
      case atStart =>
        have c1 := Cal.cum_1 k
        exact ⟨1, by omega, by omega, by rw [c1]; omega, by rw [c1, Int.sub_zero], rfl⟩
      case round =>
        obtain ⟨mo, m0, m1, m2, rfl, rfl⟩ := hrel
        have cb := Cal.cum_bd k mo m0 (by omega)
        have HC := Lib.hid (Cal.cum_succ k mo m0 m1)
        have db := Cal.dim_bd k mo
        by_cases hc2 : Cal.dim k mo ≤ n + 719162 - Cal.yr k - Cal.cum k mo
        · have hlt : mo < 12 := by
            rcases (show mo < 12 ∨ mo = 12 from by omega) with h | h
            · exact h
            · subst h; have a := HC.out; have b := Cal.cum_13 k; have c := HS.out
              have a' : Cal.cum k 13 = Cal.cum k 12 + Cal.dim k 12 := a
              omega
          go_wp2_with (go_at_call 50; refine (ref2_length k mo _ (by omega) (by omega)).mono ?_; rintro e w' ⟨rfl, rfl⟩)
          go_round
          case rel => exact ⟨mo + 1, by omega, by omega, by rw [HC.out]; omega, by rw [HC.out, ← Int.sub_sub], rfl⟩
          case measure => simp [intOf]; omega
        · have V : Cal.Vld k mo (n + 719162 - Cal.yr k - Cal.cum k mo + 1) := ⟨k0, k1, m0, m1, by omega, by omega⟩
          have V2 : Cal.num k mo (n + 719162 - Cal.yr k - Cal.cum k mo + 1) = n := by unfold Cal.num; omega
          obtain ⟨E1, E2, E3⟩ := Cal.num_inj V hv (V2.trans HN.out)
          have HE1 := Lib.hid E1; have HE2 := Lib.hid E2; have HE3 := Lib.hid E3
          clear V V2 E1 E2 E3
          go_wp2_with (go_at_call 50; refine (ref2_length k mo _ (by omega) (by omega)).mono ?_; rintro e w' ⟨rfl, rfl⟩)
          refine bodyPost_ret (v := .tuple #[.agg #[.int .i64 k, .int .i64 mo, .int .i64 (n + 719162 - Cal.yr k - Cal.cum k mo + 1)], .int .i64 0]) (by simp [results, Try.results47, go_sem]) rfl ⟨ret_date HE1.out HE2.out HE3.out, ?_⟩
          go_light
          (repeat' (first | (with_reducible exact Below.refl _ _) | (with_reducible assumption) | (with_reducible refine Below.trans ?_ (Below.mono (by with_reducible assumption) ?_)) | (with_reducible refine Below.alloc ?_ ?_ _) | (with_reducible refine Below.setCell ?_ ?_ _) | (with_reducible refine below_drewN ?_ _) | (with_reducible refine Below.drew ?_) | go_size))
end Go.Proofs.Ytklahiogcpojmaa
