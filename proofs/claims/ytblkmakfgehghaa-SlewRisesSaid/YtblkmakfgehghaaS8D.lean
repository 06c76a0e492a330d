/- Stage 8: SlewParts. -/
import Derived.Test.YtblkmakfgehghaaS8C
set_option linter.unusedSimpArgs false
set_option linter.unusedVariables false
namespace Go.Proofs.Ytblkmakfgehghaa
open Go.ChangeShapes Go.WideShapes Go.ChangeAt Go.RowKit Go.Joins

/-- Read at the same count or a later one. -/
theorem slew_read_any (b : Nat) (c t l n : Int) (w : World) (k : Ints3 w b c t l) (h : c ≤ n) (h0 : 0 ≤ c) (h1 : n ≤ 9223372036854775807) (tb : 0 ≤ t ∧ t ≤ 9223372036854775807) (lb : -4611686018427387904 ≤ l ∧ l ≤ 4611686018427387904) :
    Calls Try.prog 14 #[.pointer (some ⟨b, 0, none⟩), .int .i64 n] w fun e w' => e = .returned (.int .i64 (shown t l (n - c))) ∧ Only b w w' ∧ Ints3 w' b n (shown t l (n - c)) (l - turnOf l (n - c)) := by
  by_cases hc : n = c
  · subst hc
    have e0 : turnOf l (n - n) = 0 := by unfold turnOf; rw [Int.sub_self]; split <;> (try split) <;> omega
    have e1 : shown t l (n - n) = t := by unfold shown; rw [e0, Int.sub_self, addS_in (a := 0) (b := 0) (by omega) (by omega), addS_in (by omega) (by omega)]; omega
    rw [e0, e1, Int.sub_zero]
    exact (slew_read_old b n t l n w k (by omega)).mono fun e w' ⟨he, hw⟩ => by subst hw; exact ⟨he, Only.refl _ _, k⟩
  · exact slew_read_on b c t l n w k (by omega) h0 h1 tb lb
/-- The same, with the turned part named, far from the ends. -/
theorem slew_read_part (b : Nat) (c t l d y l' : Int) (w : World) (k : Ints3 w b c t l) (h0 : 0 ≤ c) (hd : 0 ≤ d ∧ d ≤ 1099511627776) (h1 : c ≤ 1000000000000000) (tb : 0 ≤ t ∧ t ≤ 1000000000000000) (lb : -1000000000 ≤ l ∧ l ≤ 1000000000) (hy : turnOf l d = y) (hl : l - y = l') :
    Calls Try.prog 14 #[.pointer (some ⟨b, 0, none⟩), .int .i64 (c + d)] w fun e w' => e = .returned (.int .i64 (t + d + y)) ∧ Only b w w' ∧ Ints3 w' b (c + d) (t + d + y) l' := by
  subst hl
  have r := slew_read_any b c t l (c + d) w k (by omega) h0 (by omega) (by omega) (by omega)
  have e0 : c + d - c = d := by omega
  have yb : -1000000000 ≤ y ∧ y ≤ 1000000000 := by subst hy; unfold turnOf; split <;> (try split) <;> omega
  have e1 : shown t l d = t + d + y := by
    unfold shown
    rw [hy, addS_in (a := d) (by omega) (by omega), addS_in (by omega) (by omega)]
    omega
  rw [e0, e1, hy] at r
  exact r
set_option maxHeartbeats 1000000 in
theorem slewParts_out (t : Int) (A : Option Addr) (n c : Nat) (w : World) (hn : n ≤ maxLen) (h : t ≤ -1000000000 ∨ (-1000000000 < t ∧ 1000000000 ≤ t) ∨ (-1000000000 < t ∧ t < 1000000000 ∧ 200 < n)) :
    Calls Try.prog 5 #[.int .i64 t, .slice A n c] w fun e w' => e = .returned (.bool true) ∧ Below w.heap.size w w' := by
  unfold maxLen at hn
  rcases h with h | ⟨h1, h⟩ | ⟨h1, h2, h⟩
  · go_enter Try.func5, Try.ntmps5
    go_wp2_with (go_at_call 12; refine (known8 _).mono ?_; rintro e w5 ⟨rfl, hb5⟩; obtain ⟨hc5, hf5⟩ := bcell hb5; have hz5 := hb5.size; (try simp only [World.size_alloc, World.size_setCell, World.heap_drewN] at hb5 hc5 hf5 hz5); (try have ha05 : w.heap.size < w5.heap.size := by omega); (try have ha15 : w.heap.size + 1 < w5.heap.size := by omega); (try have ha25 : w.heap.size + 2 < w5.heap.size := by omega); (try have hal5 : w.heap.size ≤ w5.heap.size := by omega); (try have ham5 : w.heap.size < w5.heap.size + 2 := by omega))
    go_ret
    go_light
    exact ⟨rfl, by (repeat' (first | (with_reducible exact Below.refl _ _) | (with_reducible assumption) | (with_reducible refine Below.trans ?_ (Below.mono (by with_reducible assumption) ?_)) | (with_reducible refine Below.alloc ?_ ?_ _) | (with_reducible refine Below.setCell ?_ ?_ _) | (with_reducible refine below_drewN ?_ _) | (with_reducible refine Below.drew ?_) | go_size))⟩
  · go_enter Try.func5, Try.ntmps5
    go_wp2_with (go_at_call 12; refine (known8 _).mono ?_; rintro e w5 ⟨rfl, hb5⟩; obtain ⟨hc5, hf5⟩ := bcell hb5; have hz5 := hb5.size; (try simp only [World.size_alloc, World.size_setCell, World.heap_drewN] at hb5 hc5 hf5 hz5); (try have ha05 : w.heap.size < w5.heap.size := by omega); (try have ha15 : w.heap.size + 1 < w5.heap.size := by omega); (try have ha25 : w.heap.size + 2 < w5.heap.size := by omega); (try have hal5 : w.heap.size ≤ w5.heap.size := by omega); (try have ham5 : w.heap.size < w5.heap.size + 2 := by omega))
    go_ret
    go_light
    exact ⟨rfl, by (repeat' (first | (with_reducible exact Below.refl _ _) | (with_reducible assumption) | (with_reducible refine Below.trans ?_ (Below.mono (by with_reducible assumption) ?_)) | (with_reducible refine Below.alloc ?_ ?_ _) | (with_reducible refine Below.setCell ?_ ?_ _) | (with_reducible refine below_drewN ?_ _) | (with_reducible refine Below.drew ?_) | go_size))⟩
  · have h' : (200 : Int) < (n : Int) := by omega
    go_enter Try.func5, Try.ntmps5
    go_wp2_with (go_at_call 12; refine (known8 _).mono ?_; rintro e w5 ⟨rfl, hb5⟩; obtain ⟨hc5, hf5⟩ := bcell hb5; have hz5 := hb5.size; (try simp only [World.size_alloc, World.size_setCell, World.heap_drewN] at hb5 hc5 hf5 hz5); (try have ha05 : w.heap.size < w5.heap.size := by omega); (try have ha15 : w.heap.size + 1 < w5.heap.size := by omega); (try have ha25 : w.heap.size + 2 < w5.heap.size := by omega); (try have hal5 : w.heap.size ≤ w5.heap.size := by omega); (try have ham5 : w.heap.size < w5.heap.size + 2 := by omega))
    go_ret
    go_light
    exact ⟨rfl, by (repeat' (first | (with_reducible exact Below.refl _ _) | (with_reducible assumption) | (with_reducible refine Below.trans ?_ (Below.mono (by with_reducible assumption) ?_)) | (with_reducible refine Below.alloc ?_ ?_ _) | (with_reducible refine Below.setCell ?_ ?_ _) | (with_reducible refine below_drewN ?_ _) | (with_reducible refine Below.drew ?_) | go_size))⟩
set_option maxHeartbeats 4000000 in
theorem slewParts_in (a : Int) (A : Option Addr) (n c : Nat) (z : Nat → Int) (w : World) (hz : IntsAt w A n z) (h1 : -1000000000 < a) (h2 : a < 1000000000) (h3 : n ≤ 200) :
    Calls Try.prog 5 #[.int .i64 a, .slice A n c] w fun e w' => e = .returned (.bool true) ∧ Below w.heap.size w w' := by
  have HZ := Lib.hid hz
  clear hz
  have hn' : (n : Int) ≤ 200 := by omega
  have k0 := Ints3.new w 0 1099511627776 0 49
  have HB0 : Below w.heap.size w (w.alloc (.cells #[.int .i64 0, .int .i64 1099511627776, .int .i64 0] 49)) := by (repeat' (first | (with_reducible exact Below.refl _ _) | (with_reducible assumption) | (with_reducible refine Below.trans ?_ (Below.mono (by with_reducible assumption) ?_)) | (with_reducible refine Below.alloc ?_ ?_ _) | (with_reducible refine Below.setCell ?_ ?_ _) | (with_reducible refine below_drewN ?_ _) | (with_reducible refine Below.drew ?_) | go_size))
  go_enter Try.func5, Try.ntmps5
  go_wp2_with fail
  refine (slew_new_ok 0 1099511627776 _ (by decide) (by decide) (by decide)).mono ?_; rintro e w' ⟨rfl, rfl⟩
  go_wp2_with fail
  refine (slew_turn_old _ 0 1099511627776 0 0 a _ k0 (by omega) (by omega) h2).mono ?_; rintro e w1 ⟨rfl, ho1, k1⟩
  have HB1 : Below w.heap.size w w1 := HB0.trans (ho1.below (Nat.le_refl _) HB0.size)
  clear ho1 k0 HB0
  go_wp2_with (go_at_call 18; refine (slew_left _ _ _ _ _ k1).mono ?_; rintro e w' ⟨rfl, rfl⟩)
  have K1 := Lib.hid k1
  clear k1
  go_loopw [9, 10, 11, 12] (fun m t l i wr => ∃ (k : Nat) (N T L : Int), k ≤ n ∧ 0 ≤ N ∧ N ≤ 1099511627776 * k ∧ 0 ≤ T ∧ T ≤ 1099511627776 + 1099511627776 * k + 1000000000 * k ∧ -1000000000 ≤ L ∧ L ≤ 1000000000 ∧ m = .int .i64 N ∧ t = .int .i64 T ∧ l = .int .i64 L ∧ i = .int .i64 k ∧ Ints3 wr w.heap.size N T L ∧ Below w.heap.size w wr) (fun _ _ _ i _ => n - (intOf i).toNat)
  case atStart => exact ⟨0, 0, 1099511627776, a, Nat.zero_le _, by omega, by omega, by omega, by omega, by omega, by omega, rfl, rfl, rfl, rfl, K1.out, HB1⟩
  case round =>
    obtain ⟨k, N, T, L, k1, N0, N1, T0, T1, L0, L1, rfl, rfl, rfl, rfl, KI, HB⟩ := hrel
    clear K1 HB1
    by_cases hlt : k < n
    · obtain ⟨B, O, rfl, hB, hcells⟩ := HZ.out (by omega)
      have hcell : wr.cell? ⟨B, O + k, none⟩ = some (.int .i64 (z k)) := (HB.cell (p := ⟨B, O + k, none⟩) hB).trans (hcells k hlt).1
      clear hcells
      have lb := low40_bd (z k)
      have hL : bits .and .i64 (z k) 1099511627775 = low40 (z k) := rfl
      generalize low40 (z k) = D at *
      have D1 : -(D / 2000) ≤ D / 2000 := by omega
      have D2 : 0 ≤ D / 2000 := by omega
      rcases (show (0 ≤ L ∧ D / 2000 < L) ∨ (0 ≤ L ∧ L ≤ D / 2000) ∨ (L < 0 ∧ D / 2000 < -L) ∨ (L < 0 ∧ -L ≤ D / 2000) from by omega) with ⟨p1, p2⟩ | ⟨p1, p2⟩ | ⟨p1, p2⟩ | ⟨p1, p2⟩
      · have p3 : -L ≤ L := by omega
        have d0 : decide (L < 0) = false := by simpa using p1
        have hy : turnOf L D = D / 2000 := by unfold turnOf; rw [if_pos (by omega)]
        have HY := Lib.hid hy
        clear hy
        go_wp2_with fail
        refine (slew_read_part _ _ _ _ D (D / 2000) (L - D / 2000) _ KI N0 (by omega) (by omega) (by omega) (by omega) HY.out (by omega)).mono ?_; rintro e w2 ⟨rfl, ho2, k2⟩
        have HB2 : Below w.heap.size w w2 := HB.trans (ho2.below (Nat.le_refl _) HB.size)
        have K2 := Lib.hid k2
        go_wp2_with (first | (go_at_call 18; refine (slew_left _ _ _ _ _ k2).mono ?_; rintro e w' ⟨rfl, rfl⟩))
        go_roundw
        case rel => exact ⟨k + 1, N + D, T + D + D / 2000, L - D / 2000, by omega, by omega, by omega, by omega, by omega, by omega, by omega, rfl, rfl, rfl, by go_num, K2.out, HB2⟩
        case measure => simp [intOf]; omega
      · have p3 : -L ≤ L := by omega
        have d0 : decide (L < 0) = false := by simpa using p1
        have hy : turnOf L D = L := by unfold turnOf; split <;> (try split) <;> omega
        have HY := Lib.hid hy
        clear hy
        go_wp2_with fail
        refine (slew_read_part _ _ _ _ D L 0 _ KI N0 (by omega) (by omega) (by omega) (by omega) HY.out (by omega)).mono ?_; rintro e w2 ⟨rfl, ho2, k2⟩
        have HB2 : Below w.heap.size w w2 := HB.trans (ho2.below (Nat.le_refl _) HB.size)
        have K2 := Lib.hid k2
        go_wp2_with (first | (go_at_call 18; refine (slew_left _ _ _ _ _ k2).mono ?_; rintro e w' ⟨rfl, rfl⟩))
        go_roundw
        case rel => exact ⟨k + 1, N + D, T + D + L, 0, by omega, by omega, by omega, by omega, by omega, by omega, by omega, rfl, rfl, rfl, by go_num, K2.out, HB2⟩
        case measure => simp [intOf]; omega
      · have p3 : L < -L := by omega
        have d0 : decide (L < 0) = true := by simpa using p1
        have hy : turnOf L D = -(D / 2000) := by unfold turnOf; split <;> (try split) <;> omega
        have HY := Lib.hid hy
        clear hy
        go_wp2_with fail
        refine (slew_read_part _ _ _ _ D (-(D / 2000)) (L + D / 2000) _ KI N0 (by omega) (by omega) (by omega) (by omega) HY.out (by omega)).mono ?_; rintro e w2 ⟨rfl, ho2, k2⟩
        have HB2 : Below w.heap.size w w2 := HB.trans (ho2.below (Nat.le_refl _) HB.size)
        have K2 := Lib.hid k2
        go_wp2_with (first | (go_at_call 18; refine (slew_left _ _ _ _ _ k2).mono ?_; rintro e w' ⟨rfl, rfl⟩))
        go_roundw
        case rel => exact ⟨k + 1, N + D, T + D + -(D / 2000), L + D / 2000, by omega, by omega, by omega, by omega, by omega, by omega, by omega, rfl, rfl, rfl, by go_num, K2.out, HB2⟩
        case measure => simp [intOf]; omega
      · have p3 : L < -L := by omega
        have d0 : decide (L < 0) = true := by simpa using p1
        have hy : turnOf L D = L := by unfold turnOf; split <;> (try split) <;> omega
        have HY := Lib.hid hy
        clear hy
        go_wp2_with fail
        refine (slew_read_part _ _ _ _ D L 0 _ KI N0 (by omega) (by omega) (by omega) (by omega) HY.out (by omega)).mono ?_; rintro e w2 ⟨rfl, ho2, k2⟩
        have HB2 : Below w.heap.size w w2 := HB.trans (ho2.below (Nat.le_refl _) HB.size)
        have K2 := Lib.hid k2
        go_wp2_with (first | (go_at_call 18; refine (slew_left _ _ _ _ _ k2).mono ?_; rintro e w' ⟨rfl, rfl⟩))
        go_roundw
        case rel => exact ⟨k + 1, N + D, T + D + L, 0, by omega, by omega, by omega, by omega, by omega, by omega, by omega, rfl, rfl, rfl, by go_num, K2.out, HB2⟩
        case measure => simp [intOf]; omega
    · obtain rfl : k = n := by omega
      clear KI
      have z2 := HB.size
      go_wp2_with (go_at_call 12; refine (known8 _).mono ?_; rintro e w5 ⟨rfl, hb5⟩; obtain ⟨hc5, hf5⟩ := bcell hb5; have hz5 := hb5.size; (try simp only [World.size_alloc, World.size_setCell, World.heap_drewN] at hb5 hc5 hf5 hz5); (try have ha05 : w.heap.size < w5.heap.size := by omega); (try have ha15 : w.heap.size + 1 < w5.heap.size := by omega); (try have ha25 : w.heap.size + 2 < w5.heap.size := by omega); (try have hal5 : w.heap.size ≤ w5.heap.size := by omega); (try have ham5 : w.heap.size < w5.heap.size + 2 := by omega))
      go_ret
      go_light
      exact ⟨rfl, by (repeat' (first | (with_reducible exact Below.refl _ _) | (with_reducible assumption) | (with_reducible refine Below.trans ?_ (Below.mono (by with_reducible assumption) ?_)) | (with_reducible refine Below.alloc ?_ ?_ _) | (with_reducible refine Below.setCell ?_ ?_ _) | (with_reducible refine below_drewN ?_ _) | (with_reducible refine Below.drew ?_) | go_size))⟩

set_option maxRecDepth 100000 in
theorem slewParts_lifted (os : Os) (started : os.Started) (H : Type) (enc : TypeId × Value → H) :
    ReturnsInHanded {} Try.checked os 5 .any (Rows.slewPartsSpec.pre6 enc Try.prog Try.f5 Rows.slewPartsRow.domain false) (Rows.slewPartsSpec.post enc Try.prog Try.f5 false true false false) := by
  refine returnsInHanded_of_change_sized (C := Try.checked) law_own started (by kernel_rfl) Try.func5
    (ChangeSpec.witness6 (enc := enc) (C := Try.checked) false ⟨#[], #[.int .i64 0, .slice none 0 0], []⟩ 8 (by kernel_rfl) (by kernel_rfl) (by kernel_rfl) (by kernel_rfl)) ?_
  intro W base args ds gs before hval0 hW hcnd hsz0 _
  have hval : ∀ (j : Nat) t v, Try.f5.params[j]? = some t → args[j]? = some v → Value.okWide Try.prog W .any base t v := hval0
  have hsz : (DataW.weightsEach Try.prog (Try.f5.params.toList ++ Rows.slewPartsSpec.plain.varTypes Try.prog) (ds ++ gs)).all (· ≤ reachBytes) = true := hsz0
  have hW' := hW
  obtain ⟨p, q, hA0, hV, rfl, hfz, hnd⟩ := hW
  have hA : DataW.TrodAll enc Try.prog W 0 (fun _ => true) true Try.f5.params.toList args.toList ds p := hA0
  rw [Try.params5] at hA hval hsz
  have hsame : (Rows.slewPartsSpec.fn H (ds ++ gs)).results = [.lit (.bool true)] ∧ (Rows.slewPartsSpec.fn H (ds ++ gs)).args = ds ∧ (Rows.slewPartsSpec.fn H (ds ++ gs)).vars = [] → ∀ W', Below W.heap.size W W' → Rows.slewPartsSpec.post enc Try.prog Try.f5 false true false false W args (.bool true) W' :=
    fun h W' hb => law_post (tb := 4) hW' law_laid (by kernel_rfl) rfl Try.underlying4 h.1 h.2.1 rfl h.2.2 hb
  obtain ⟨v0, vs0, d0, ds0, p0, q0, hargs, rfl, rfl, h0, r0⟩ := trodAll_cons hA
  obtain ⟨v1, vs1, d1, ds1, p1, q1, rfl, rfl, rfl, h1, r1⟩ := trodAll_cons r0
  obtain ⟨rfl, rfl, rfl⟩ := trodAll_nil r1
  obtain rfl : args = #[v0, v1] := by cases args; simp_all
  obtain ⟨rfl, rfl⟩ := trodVars_none hV
  have hpost := hsame ⟨rfl, rfl, rfl⟩
  clear hsame hA0 hval0 hsz0
  obtain ⟨a0, rfl, rfl, rfl, wf0⟩ := open_int Try.underlying3 (hval 0 3 v0 rfl rfl) h0
  obtain ⟨A, n, c, z, rfl, hn, hz⟩ := open_int_slice (hval 1 43 v1 rfl rfl) h1
  by_cases h : a0 ≤ -1000000000 ∨ (-1000000000 < a0 ∧ 1000000000 ≤ a0) ∨ (-1000000000 < a0 ∧ a0 < 1000000000 ∧ 200 < n)
  · exact (slewParts_out a0 A n c W hn h).mono fun e W' ⟨he, hb⟩ => ⟨_, he, hpost W' hb⟩
  · exact (slewParts_in a0 A n c z W hz (by omega) (by omega) (by omega)).mono fun e W' ⟨he, hb⟩ => ⟨_, he, hpost W' hb⟩
theorem slewParts_holds : Rows.SlewPartsSaid :=
  OpenClaim.holds_of_wide 5 Try.f5 rfl rfl rfl rfl rfl rfl rfl ⟨rfl, rfl, rfl, rfl, rfl⟩ rfl rfl rfl rfl rfl (by kernel_rfl) Try.func5 (by kernel_rfl)
    (of_decide_eq_true (by kernel_rfl)) (by unfold Func.isWrapper; first | (rw [if_pos (by decide +kernel)]; kernel_rfl) | (rw [if_neg (by decide +kernel)]; exact ⟨rfl, rfl⟩))
    (fun os started H enc _ => slewParts_lifted os started H enc)
end Go.Proofs.Ytblkmakfgehghaa
