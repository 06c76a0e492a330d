/- Stage 8: SlewOnce. -/
import Derived.Test.YtblkmakfgehghaaSlewTurn
import Derived.Test.YtblkmakfgehghaaLaw
set_option linter.unusedSimpArgs false
set_option linter.unusedVariables false
namespace Go.Proofs.Ytblkmakfgehghaa
open Go.ChangeShapes Go.WideShapes Go.ChangeAt Go.RowKit Go.Joins

set_option maxHeartbeats 1000000 in
theorem slewOnce_out (a n : Int) (w : World) (h : a ≤ -1000000000 ∨ (-1000000000 < a ∧ 1000000000 ≤ a) ∨ (-1000000000 < a ∧ a < 1000000000 ∧ n < 1) ∨ (-1000000000 < a ∧ a < 1000000000 ∧ 1 ≤ n ∧ 50 < n)) :
    Calls Try.prog 9 #[.int .i64 a, .int .i64 n] w fun e w' => e = .returned (.bool true) ∧ Below w.heap.size w w' := by
  rcases h with h | ⟨h1, h⟩ | ⟨h1, h2, h⟩ | ⟨h1, h2, h3, h⟩
  all_goals
    go_enter Try.func9, Try.ntmps9
    go_wp2_with (go_at_call 12; refine (known8 _).mono ?_; rintro e w5 ⟨rfl, hb5⟩; obtain ⟨hc5, hf5⟩ := bcell hb5; have hz5 := hb5.size; (try simp only [World.size_alloc, World.size_setCell, World.heap_drewN] at hb5 hc5 hf5 hz5); (try have ha05 : w.heap.size < w5.heap.size := by omega); (try have ha15 : w.heap.size + 1 < w5.heap.size := by omega); (try have ha25 : w.heap.size + 2 < w5.heap.size := by omega); (try have hal5 : w.heap.size ≤ w5.heap.size := by omega); (try have ham5 : w.heap.size < w5.heap.size + 2 := by omega))
    go_ret
    go_light
    exact ⟨rfl, by (repeat' (first | (with_reducible exact Below.refl _ _) | (with_reducible assumption) | (with_reducible refine Below.trans ?_ (Below.mono (by with_reducible assumption) ?_)) | (with_reducible refine Below.alloc ?_ ?_ _) | (with_reducible refine Below.setCell ?_ ?_ _) | (with_reducible refine below_drewN ?_ _) | (with_reducible refine Below.drew ?_) | go_size))⟩
/-- What the clock holds behind k rounds. -/
def timeK (a k : Int) : Int := if k = 0 then 1125899906842624 else 1125899906842624 + 2000000000000 * k + a
def leftK (a k : Int) : Int := if k = 0 then a else 0
theorem onceK (a k : Int) (h1 : -1000000000 < a) (h2 : a < 1000000000) (k0 : 0 ≤ k) (k1 : k ≤ 50) :
    shown (timeK a k) (leftK a k) 2000000000000 = timeK a (k + 1) ∧ leftK a k - turnOf (leftK a k) 2000000000000 = leftK a (k + 1) ∧ (0 ≤ timeK a k ∧ timeK a k ≤ 9223372036854775807) ∧ (-4611686018427387904 ≤ leftK a k ∧ leftK a k ≤ 4611686018427387904) ∧ timeK a (k + 1) = 1125899906842624 + (2000000000000 * k + 2000000000000) + a ∧ leftK a (k + 1) = 0 := by
  have e1 : timeK a (k + 1) = 1125899906842624 + 2000000000000 * (k + 1) + a := by unfold timeK; rw [if_neg (by omega)]
  have e2 : leftK a (k + 1) = 0 := by unfold leftK; rw [if_neg (by omega)]
  have hl : -1000000000 < leftK a k ∧ leftK a k < 1000000000 := by unfold leftK; split <;> omega
  have ht : turnOf (leftK a k) 2000000000000 = leftK a k := by unfold turnOf; rw [if_neg (by omega), if_neg (by omega)]
  have hs : timeK a k + (2000000000000 + leftK a k) = timeK a (k + 1) := by
    rw [e1]; unfold timeK leftK; split <;> omega
  have hb : 0 ≤ timeK a k ∧ timeK a k ≤ 2000000000000000 := by unfold timeK; split <;> omega
  refine ⟨?_, by rw [ht, e2]; omega, by omega, by omega, by rw [e1]; omega, e2⟩
  unfold shown
  rw [ht, addS_in (a := 2000000000000) (b := leftK a k) (by omega) (by omega), addS_in (by omega) (by omega), hs]
set_option maxHeartbeats 2000000 in
theorem slewOnce_in (a n : Int) (w : World) (h1 : -1000000000 < a) (h2 : a < 1000000000) (h3 : 1 ≤ n) (h4 : n ≤ 50) :
    Calls Try.prog 9 #[.int .i64 a, .int .i64 n] w fun e w' => e = .returned (.bool true) ∧ Below w.heap.size w w' := by
  have k0 := Ints3.new w 0 1125899906842624 0 49
  have HB0 : Below w.heap.size w (w.alloc (.cells #[.int .i64 0, .int .i64 1125899906842624, .int .i64 0] 49)) := by (repeat' (first | (with_reducible exact Below.refl _ _) | (with_reducible assumption) | (with_reducible refine Below.trans ?_ (Below.mono (by with_reducible assumption) ?_)) | (with_reducible refine Below.alloc ?_ ?_ _) | (with_reducible refine Below.setCell ?_ ?_ _) | (with_reducible refine below_drewN ?_ _) | (with_reducible refine Below.drew ?_) | go_size))
  go_enter Try.func9, Try.ntmps9
  go_wp2_with fail
  refine (slew_new_ok 0 1125899906842624 _ (by decide) (by decide) (by decide)).mono ?_; rintro e w' ⟨rfl, rfl⟩
  go_wp2_with fail
  refine (slew_turn_old _ 0 1125899906842624 0 0 a _ k0 (by omega) (by omega) h2).mono ?_; rintro e w1 ⟨rfl, ho1, k1⟩
  have HB1 : Below w.heap.size w w1 := HB0.trans (ho1.below (Nat.le_refl _) HB0.size)
  have K1 : Hid (Ints3 w1 w.heap.size (2000000000000 * 0) (timeK a 0) (leftK a 0)) := k1
  clear k1 ho1 k0 HB0
  go_wp2_with fail
  go_loopw [7, 8] (fun t i wr => ∃ k : Int, 0 ≤ k ∧ k ≤ n ∧ t = .int .i64 (2000000000000 * k) ∧ i = .int .i64 k ∧ Ints3 wr w.heap.size (2000000000000 * k) (timeK a k) (leftK a k) ∧ Below w.heap.size w wr) (fun _ i _ => (n - intOf i).toNat)
  case atStart => exact ⟨0, by omega, by omega, rfl, rfl, K1.out, HB1⟩
  case round =>
    obtain ⟨k, k0, k1, rfl, rfl, KI, HB⟩ := hrel
    clear K1
    by_cases hlt : k < n
    · obtain ⟨f1, f2, f3, f4, f5, f6⟩ := onceK a k h1 h2 k0 (by omega)
      have F1 := Lib.hid f1; have F2 := Lib.hid f2; have F5 := Lib.hid f5; have F6 := Lib.hid f6
      clear f1 f2 f5 f6
      go_wp2_with fail
      refine (slew_read_on _ _ _ _ (2000000000000 * k + 2000000000000) _ KI (by omega) (by omega) (by omega) f3 f4).mono ?_; rintro e w2 ⟨rfl, ho2, k2⟩
      have HB2 : Below w.heap.size w w2 := HB.trans (ho2.below (Nat.le_refl _) HB.size)
      have e0 : 2000000000000 * k + 2000000000000 - 2000000000000 * k = 2000000000000 := by omega
      rw [e0, F1.out, F2.out] at k2
      rw [e0, F1.out, F5.out]
      have e9 : 2000000000000 * k + 2000000000000 = 2000000000000 * (k + 1) := by omega
      have k3 := k2
      rw [F6.out] at k3
      have K2 := Lib.hid k2
      have E9 := Lib.hid e9
      clear e0 e9 k2 f3 f4
      go_wp2_with (go_at_call 18; refine (slew_left _ _ _ _ _ k3).mono ?_; rintro e w' ⟨rfl, rfl⟩)
      go_roundw
      case rel => exact ⟨k + 1, by omega, by omega, by rw [E9.out], rfl, by have := K2.out; rw [E9.out] at this; exact this, HB2⟩
      case measure => simp [intOf]; omega
    · obtain rfl : k = n := by omega
      clear KI
      have z2 := HB.size
      go_wp2_with (go_at_call 12; refine (known8 _).mono ?_; rintro e w5 ⟨rfl, hb5⟩; obtain ⟨hc5, hf5⟩ := bcell hb5; have hz5 := hb5.size; (try simp only [World.size_alloc, World.size_setCell, World.heap_drewN] at hb5 hc5 hf5 hz5); (try have ha05 : w.heap.size < w5.heap.size := by omega); (try have ha15 : w.heap.size + 1 < w5.heap.size := by omega); (try have ha25 : w.heap.size + 2 < w5.heap.size := by omega); (try have hal5 : w.heap.size ≤ w5.heap.size := by omega); (try have ham5 : w.heap.size < w5.heap.size + 2 := by omega))
      go_ret
      go_light
      exact ⟨rfl, by (repeat' (first | (with_reducible exact Below.refl _ _) | (with_reducible assumption) | (with_reducible refine Below.trans ?_ (Below.mono (by with_reducible assumption) ?_)) | (with_reducible refine Below.alloc ?_ ?_ _) | (with_reducible refine Below.setCell ?_ ?_ _) | (with_reducible refine below_drewN ?_ _) | (with_reducible refine Below.drew ?_) | go_size))⟩

set_option maxRecDepth 100000 in
theorem slewOnce_lifted (os : Os) (started : os.Started) (H : Type) (enc : TypeId × Value → H) :
    ReturnsInHanded {} Try.checked os 9 .any (Rows.slewOnceSpec.pre6 enc Try.prog Try.f9 Rows.slewOnceRow.domain false) (Rows.slewOnceSpec.post enc Try.prog Try.f9 false true false false) := by
  refine returnsInHanded_of_change_sized (C := Try.checked) law_own started (by kernel_rfl) Try.func9
    (ChangeSpec.witness6 (enc := enc) (C := Try.checked) false ⟨#[], #[.int .i64 0, .int .i64 0], []⟩ 8 (by kernel_rfl) (by kernel_rfl) (by kernel_rfl) (by kernel_rfl)) ?_
  intro W base args ds gs before hval0 hW hcnd hsz0 _
  have hval : ∀ (j : Nat) t v, Try.f9.params[j]? = some t → args[j]? = some v → Value.okWide Try.prog W .any base t v := hval0
  have hsz : (DataW.weightsEach Try.prog (Try.f9.params.toList ++ Rows.slewOnceSpec.plain.varTypes Try.prog) (ds ++ gs)).all (· ≤ reachBytes) = true := hsz0
  have hW' := hW
  obtain ⟨p, q, hA0, hV, rfl, hfz, hnd⟩ := hW
  have hA : DataW.TrodAll enc Try.prog W 0 (fun _ => true) true Try.f9.params.toList args.toList ds p := hA0
  rw [Try.params9] at hA hval hsz
  have hsame : (Rows.slewOnceSpec.fn H (ds ++ gs)).results = [.lit (.bool true)] ∧ (Rows.slewOnceSpec.fn H (ds ++ gs)).args = ds ∧ (Rows.slewOnceSpec.fn H (ds ++ gs)).vars = [] → ∀ W', Below W.heap.size W W' → Rows.slewOnceSpec.post enc Try.prog Try.f9 false true false false W args (.bool true) W' :=
    fun h W' hb => law_post (tb := 4) hW' law_laid (by kernel_rfl) rfl Try.underlying4 h.1 h.2.1 rfl h.2.2 hb
  obtain ⟨v0, vs0, d0, ds0, p0, q0, hargs, rfl, rfl, h0, r0⟩ := trodAll_cons hA
  obtain ⟨v1, vs1, d1, ds1, p1, q1, rfl, rfl, rfl, h1, r1⟩ := trodAll_cons r0
  obtain ⟨rfl, rfl, rfl⟩ := trodAll_nil r1
  obtain rfl : args = #[v0, v1] := by cases args; simp_all
  obtain ⟨rfl, rfl⟩ := trodVars_none hV
  have hpost := hsame ⟨rfl, rfl, rfl⟩
  clear hsame hA0 hval0 hsz0
  obtain ⟨a0, rfl, rfl, rfl, wf0⟩ := open_int Try.underlying3 (hval 0 3 v0 rfl rfl) h0
  obtain ⟨a1, rfl, rfl, rfl, wf1⟩ := open_int Try.underlying3 (hval 1 3 v1 rfl rfl) h1
  by_cases h : a0 ≤ -1000000000 ∨ (-1000000000 < a0 ∧ 1000000000 ≤ a0) ∨ (-1000000000 < a0 ∧ a0 < 1000000000 ∧ a1 < 1) ∨ (-1000000000 < a0 ∧ a0 < 1000000000 ∧ 1 ≤ a1 ∧ 50 < a1)
  · exact (slewOnce_out a0 a1 W h).mono fun e W' ⟨he, hb⟩ => ⟨_, he, hpost W' hb⟩
  · exact (slewOnce_in a0 a1 W (by omega) (by omega) (by omega) (by omega)).mono fun e W' ⟨he, hb⟩ => ⟨_, he, hpost W' hb⟩
theorem slewOnce_holds : Rows.SlewOnceSaid :=
  OpenClaim.holds_of_wide 9 Try.f9 rfl rfl rfl rfl rfl rfl rfl ⟨rfl, rfl, rfl, rfl, rfl⟩ rfl rfl rfl rfl rfl (by kernel_rfl) Try.func9 (by kernel_rfl)
    (of_decide_eq_true (by kernel_rfl)) (by unfold Func.isWrapper; first | (rw [if_pos (by decide +kernel)]; kernel_rfl) | (rw [if_neg (by decide +kernel)]; exact ⟨rfl, rfl⟩))
    (fun os started H enc _ => slewOnce_lifted os started H enc)
end Go.Proofs.Ytblkmakfgehghaa
