/- The contract of cal.Date. -/
import Derived.Test.YtklahiogcpojmaaCalA
set_option linter.unusedSimpArgs false
set_option linter.unusedVariables false
namespace Go.Proofs.Ytklahiogcpojmaa
open Go.RowKit


set_option maxHeartbeats 400000 in
theorem cal_date_no (n : Int) (w : World) (h : n < -719162 ∨ 2932896 < n) :
    Calls Try.prog 32 #[.int .i64 n] w fun e w' => e = .returned (.tuple #[.agg #[.int .i64 0, .int .i64 0, .int .i64 0], .int .i64 11]) ∧ Below w.heap.size w w' := by
  rcases h with h | h
  · go_enter Try.func32, Try.ntmps32
    go_wp2
    refine bodyPost_ret (v := .tuple #[.agg #[.int .i64 0, .int .i64 0, .int .i64 0], .int .i64 11]) (by simp [results, Try.results32, go_sem]) rfl ⟨rfl, ?_⟩
    go_light
    (repeat' (first | (with_reducible exact Below.refl _ _) | (with_reducible assumption) | (with_reducible refine Below.trans ?_ (Below.mono (by with_reducible assumption) ?_)) | (with_reducible refine Below.alloc ?_ ?_ _) | (with_reducible refine Below.setCell ?_ ?_ _) | (with_reducible refine below_drewN ?_ _) | (with_reducible refine Below.drew ?_) | go_size))
  · go_enter Try.func32, Try.ntmps32
    go_wp2
    refine bodyPost_ret (v := .tuple #[.agg #[.int .i64 0, .int .i64 0, .int .i64 0], .int .i64 11]) (by simp [results, Try.results32, go_sem]) rfl ⟨rfl, ?_⟩
    go_light
    (repeat' (first | (with_reducible exact Below.refl _ _) | (with_reducible assumption) | (with_reducible refine Below.trans ?_ (Below.mono (by with_reducible assumption) ?_)) | (with_reducible refine Below.alloc ?_ ?_ _) | (with_reducible refine Below.setCell ?_ ?_ _) | (with_reducible refine below_drewN ?_ _) | (with_reducible refine Below.drew ?_) | go_size))

theorem ahead_guess (r : Int) (h0 : 0 ≤ r) (h1 : r < 146097) : Cal.ahead (r / 366) ≤ r := by unfold Cal.ahead; omega
set_option maxHeartbeats 2000000 in
theorem cal_date_yes (y m d n : Int) (w : World) (hv : Cal.Vld y m d) (hn : n = Cal.num y m d) :
    Calls Try.prog 32 #[.int .i64 n] w fun e w' => e = .returned (.tuple #[.agg #[.int .i64 y, .int .i64 m, .int .i64 d], .int .i64 0]) ∧ Below w.heap.size w w' := by
  have hb := Cal.num_bd hv
  rw [← hn] at hb
  obtain ⟨n0, n1⟩ := hb
  have HN := Lib.hid hn
  clear hn
  have g0 := ahead_guess ((n + 719468) % 146097) (by omega) (by omega)
  go_enter Try.func32, Try.ntmps32
  go_wp2
  go_loop [6] (fun t => ∃ k : Int, 0 ≤ k ∧ k ≤ 399 ∧ Cal.ahead k ≤ (n + 719468) % 146097 ∧ t = .int .i64 k) (fun t => (399 - intOf t).toNat)
  case atStart => exact ⟨_, by omega, by omega, g0, rfl⟩
  case round =>
    obtain ⟨k, k0, k1, k2, rfl⟩ := hrel
    clear g0
    by_cases hc : k < 399 ∧ Cal.ahead (k + 1) ≤ (n + 719468) % 146097
    · obtain ⟨hlt, hle⟩ := hc
      go_wp2_with (go_at_call 43; refine (cal_ahead _ _ (by omega) (by omega)).mono ?_; rintro e w' ⟨rfl, rfl⟩)
      go_round
      case rel => exact ⟨k + 1, by omega, by omega, hle, rfl⟩
      case measure => simp [intOf]; omega
    · have hz : (n + 719468) % 146097 < Cal.ahead (k + 1) := by
        by_cases e : k = 399
        · have : Cal.ahead (399 + 1) = 146097 := by decide
          rw [e]; omega
        · omega
      clear hc
      by_cases hlt : k < 399
      all_goals
        have s1 := ahead_bd k k0 (by omega)
        go_wp2_with (go_at_call 43; refine (cal_ahead _ _ (by omega) (by omega)).mono ?_; rintro e w' ⟨rfl, rfl⟩)
        go_loop [7] (fun t => ∃ mo : Int, 0 ≤ mo ∧ mo ≤ 11 ∧ Cal.march mo ≤ (n + 719468) % 146097 - Cal.ahead k ∧ t = .int .i64 mo) (fun t => (11 - intOf t).toNat)
        case atStart => exact ⟨0, by omega, by omega, by have : Cal.march 0 = 0 := by decide
                                                         omega, rfl⟩
        case round =>
          obtain ⟨mo, m0, m1, m2, rfl⟩ := hrel
          by_cases hc : mo < 11 ∧ Cal.march (mo + 1) ≤ (n + 719468) % 146097 - Cal.ahead k
          · obtain ⟨hlt', hle⟩ := hc
            go_wp2_with (go_at_call 44; refine (cal_march _ _ (by omega) (by omega)).mono ?_; rintro e w' ⟨rfl, rfl⟩)
            go_round
            case rel => exact ⟨mo + 1, by omega, by omega, hle, rfl⟩
            case measure => simp [intOf]; omega
          · have hm2 : mo = 11 ∨ (n + 719468) % 146097 - Cal.ahead k < Cal.march (mo + 1) := by omega
            clear hc
            have F := Cal.from_march n ((n + 719468) / 146097) k ((n + 719468) % 146097) mo (by omega) k0 k1 (by omega) k2 hz m0 m1 m2 hm2 n0 n1
            have b3 := march_bd mo m0 (by omega)
            have HF := Lib.hid F
            have HM := Lib.hid hm2
            clear F hm2
            have hq : 0 ≤ (n + 719468) / 146097 ∧ (n + 719468) / 146097 ≤ 30 := by omega
            by_cases hmo : mo < 11
            · have hz2 : (n + 719468) % 146097 - Cal.ahead k < Cal.march (mo + 1) := by have := HM.out; omega
              by_cases h9 : 10 ≤ mo
              · have V := HF.out.2 h9
                obtain ⟨E1, E2, E3⟩ := Cal.num_inj V.1 hv (V.2.trans HN.out)
                have HE1 := Lib.hid E1; have HE2 := Lib.hid E2; have HE3 := Lib.hid E3
                clear V E1 E2 E3
                go_wp2_with (go_at_call 44; refine (cal_march _ _ (by omega) (by omega)).mono ?_; rintro e w' ⟨rfl, rfl⟩)
                refine bodyPost_ret (v := .tuple #[.agg #[.int .i64 ((n + 719468) / 146097 * 400 + k + 1), .int .i64 (mo + 3 - 12), .int .i64 ((n + 719468) % 146097 - Cal.ahead k - Cal.march mo + 1)], .int .i64 0]) (by simp [results, Try.results32, go_sem]) rfl ⟨ret_date HE1.out (by have := HE2.out; omega) HE3.out, ?_⟩
                go_light
                (repeat' (first | (with_reducible exact Below.refl _ _) | (with_reducible assumption) | (with_reducible refine Below.trans ?_ (Below.mono (by with_reducible assumption) ?_)) | (with_reducible refine Below.alloc ?_ ?_ _) | (with_reducible refine Below.setCell ?_ ?_ _) | (with_reducible refine below_drewN ?_ _) | (with_reducible refine Below.drew ?_) | go_size))
              · have V := HF.out.1 (by omega)
                obtain ⟨E1, E2, E3⟩ := Cal.num_inj V.1 hv (V.2.trans HN.out)
                have HE1 := Lib.hid E1; have HE2 := Lib.hid E2; have HE3 := Lib.hid E3
                clear V E1 E2 E3
                go_wp2_with (go_at_call 44; refine (cal_march _ _ (by omega) (by omega)).mono ?_; rintro e w' ⟨rfl, rfl⟩)
                refine bodyPost_ret (v := .tuple #[.agg #[.int .i64 ((n + 719468) / 146097 * 400 + k), .int .i64 (mo + 3), .int .i64 ((n + 719468) % 146097 - Cal.ahead k - Cal.march mo + 1)], .int .i64 0]) (by simp [results, Try.results32, go_sem]) rfl ⟨ret_date HE1.out HE2.out HE3.out, ?_⟩
                go_light
                (repeat' (first | (with_reducible exact Below.refl _ _) | (with_reducible assumption) | (with_reducible refine Below.trans ?_ (Below.mono (by with_reducible assumption) ?_)) | (with_reducible refine Below.alloc ?_ ?_ _) | (with_reducible refine Below.setCell ?_ ?_ _) | (with_reducible refine below_drewN ?_ _) | (with_reducible refine Below.drew ?_) | go_size))
            · have V := HF.out.2 (by omega)
              obtain ⟨E1, E2, E3⟩ := Cal.num_inj V.1 hv (V.2.trans HN.out)
              have HE1 := Lib.hid E1; have HE2 := Lib.hid E2; have HE3 := Lib.hid E3
              clear V E1 E2 E3
              go_wp2_with (go_at_call 44; refine (cal_march _ _ (by omega) (by omega)).mono ?_; rintro e w' ⟨rfl, rfl⟩)
              refine bodyPost_ret (v := .tuple #[.agg #[.int .i64 ((n + 719468) / 146097 * 400 + k + 1), .int .i64 (mo + 3 - 12), .int .i64 ((n + 719468) % 146097 - Cal.ahead k - Cal.march mo + 1)], .int .i64 0]) (by simp [results, Try.results32, go_sem]) rfl ⟨ret_date HE1.out (by have := HE2.out; omega) HE3.out, ?_⟩
              go_light
              (repeat' (first | (with_reducible exact Below.refl _ _) | (with_reducible assumption) | (with_reducible refine Below.trans ?_ (Below.mono (by with_reducible assumption) ?_)) | (with_reducible refine Below.alloc ?_ ?_ _) | (with_reducible refine Below.setCell ?_ ?_ _) | (with_reducible refine below_drewN ?_ _) | (with_reducible refine Below.drew ?_) | go_size))
end Go.Proofs.Ytklahiogcpojmaa
