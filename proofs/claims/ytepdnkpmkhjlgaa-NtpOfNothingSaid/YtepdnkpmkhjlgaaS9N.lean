/- Stage 9: NtpOfNothing: a nil Client asks nobody: for every number and every bytes. -/
import Derived.Test.YtepdnkpmkhjlgaaM9O
import Derived.Test.YtepdnkpmkhjlgaaArgU8
set_option linter.unusedSimpArgs false
set_option linter.unusedVariables false
namespace Go.Proofs.Ytepdnkpmkhjlgaa
open Go.ChangeShapes Go.WideShapes Go.ChangeAt Go.RowKit Go.Joins Go.Sort

theorem ntp_hear_nil (i count : Int) (v : Value) (w : World) : Calls Try.prog 7 #[.pointer none, .int .i64 i, .int .i64 count, v] w fun e w' => e = .returned (.int .i64 1) ∧ w = w' := by
  have HH := Lib.hid (ntp_has_nil i w)
  go_enter Try.func7, Try.ntmps7
  go_wp2_with fail
  refine HH.out.mono ?_; rintro e w' ⟨rfl, rfl⟩
  go_wp2_with fail
  go_ret
  exact ⟨rfl, rfl⟩
theorem ntp_sample_nil (i : Int) (w : World) : Calls Try.prog 5 #[.pointer none, .int .i64 i] w fun e w' => e = .returned (.tuple #[.agg #[.int .i64 0, .int .i64 0], .bool false]) ∧ Below w.heap.size w w' := by
  have HH := Lib.hid (fun W : World => ntp_has_nil i W)
  have X := Ints2.new w 0 0 28
  have HX := Lib.hid (And.intro X.c0 X.c1)
  have HB := Lib.hid (show Below w.heap.size w (w.alloc (.cells #[.int .i64 0, .int .i64 0] 28)) from by (repeat' (first | (with_reducible exact Below.refl _ _) | (with_reducible assumption) | (with_reducible refine Below.trans ?_ (Below.mono (by with_reducible assumption) ?_)) | (with_reducible refine Below.alloc ?_ ?_ _) | (with_reducible refine Below.setCell ?_ ?_ _) | (with_reducible refine below_drewN ?_ _) | (with_reducible refine Below.drew ?_) | go_size)))
  clear X
  go_enter Try.func5, Try.ntmps5
  go_wp2_with fail
  refine (HH.out _).mono ?_; rintro e w' ⟨rfl, rfl⟩
  go_wp2_with fail
  have j0 := HX.out.1
  have j1 := HX.out.2
  refine bodyPost_ret (v := .tuple #[.agg #[.int .i64 0, .int .i64 0], .bool false]) (by simp [results, Try.results5, go_sem, j0, j1]) rfl ⟨rfl, HB.out⟩
theorem ntp_new_no (w : World) : Calls Try.prog 6 #[.agg #[.slice none 0 0, .int .i64 0], .int .i64 1, .int .i64 0] w fun e w' => e = .returned (.tuple #[.pointer none, .int .i64 1]) ∧ Below w.heap.size w w' := by
  have HB0 : Below w.heap.size w (w.alloc (.cells #[.slice none 0 0, .int .i64 0] 35)) := by (repeat' (first | (with_reducible exact Below.refl _ _) | (with_reducible assumption) | (with_reducible refine Below.trans ?_ (Below.mono (by with_reducible assumption) ?_)) | (with_reducible refine Below.alloc ?_ ?_ _) | (with_reducible refine Below.setCell ?_ ?_ _) | (with_reducible refine below_drewN ?_ _) | (with_reducible refine Below.drew ?_) | go_size))
  have HI := Lib.hid (leap_is_no none 0 0 0 (fun _ => 0) (w.alloc (.cells #[.slice none 0 0, .int .i64 0] 35)) (FlatAt.empty _ _ _ _) (by omega) (fun h => by have := h.1; omega))
  go_enter Try.func6, Try.ntmps6
  go_wp2_with fail
  refine HI.out.mono ?_; rintro e w1 ⟨rfl, k1⟩
  have HB1 := Lib.hid (HB0.trans (k1.mono HB0.size))
  clear k1 HB0
  go_wp2_with fail
  go_ret2
  exact ⟨rfl, HB1.out⟩
theorem ofNothing9_big (x : Int) (A : Option Addr) (n c : Nat) (w : World) (h : 1000 < n) : Calls Try.prog 3 #[.int .i64 x, .slice A n c] w fun e w' => e = .returned (.bool true) ∧ Below w.heap.size w w' := by
  have t : decide ((n : Int) > 1000) = true := by simp; omega
  have t' : decide (1000 < (n : Int)) = true := by simp; omega
  go_enter Try.func3, Try.ntmps3
  go_wp2
  go_ret
  exact ⟨rfl, Below.refl _ _⟩
set_option maxHeartbeats 2000000 in
theorem ofNothing9_in (x : Int) (A : Option Addr) (n c : Nat) (w : World) (h : n ≤ 1000) : Calls Try.prog 3 #[.int .i64 x, .slice A n c] w fun e w' => e = .returned (.bool true) ∧ Below w.heap.size w w' := by
  have t : decide ((n : Int) > 1000) = false := by simp; omega
  have t' : decide (1000 < (n : Int)) = false := by simp; omega
  have HA := Lib.hid (ntp_ask_nil x x w)
  have HS := Lib.hid (ntp_sample_nil x w)
  have HN := Lib.hid (fun W : World => ntp_new_no W)
  have HH := Lib.hid (fun W : World => ntp_hear_nil x x (.slice A n c) W)
  have HY := Lib.hid (fun W : World => ntp_synced_nil W)
  have HK := Lib.hid (fun W : World => known9 W)
  go_enter Try.func3, Try.ntmps3
  go_wp2_with fail
  refine HA.out.mono ?_; rintro e w' ⟨rfl, rfl⟩
  go_wp2_with fail
  refine HS.out.mono ?_; rintro e w1 ⟨rfl, k1⟩
  have X := Ints2.new w1 0 0 28
  have HB1 := Lib.hid (k1.alloc k1.size (.cells #[.int .i64 0, .int .i64 0] 28))
  have HX := Lib.hid X
  clear k1 X
  go_wp2_with fail
  refine (HN.out _).mono ?_; rintro e w2 ⟨rfl, k2⟩
  have HB2 := Lib.hid (HB1.out.trans (k2.mono HB1.out.size))
  obtain ⟨j0, j1, _, _, jl⟩ := HX.out.below k2 HX.out.lt
  clear k2 HB1 HX
  go_wp2_with (first | (go_at_call 7; refine (HH.out _).mono ?_; rintro e w' ⟨rfl, rfl⟩) | (go_at_call 8; refine (HY.out _).mono ?_; rintro e w' ⟨rfl, rfl⟩) | (go_at_call 9; refine (HK.out _).mono ?_; rintro e w9 ⟨rfl, k9⟩))
  go_ret
  exact ⟨rfl, HB2.out.trans (k9.mono HB2.out.size)⟩
set_option maxRecDepth 100000 in
theorem ntpOfNothing_lifted (os : Os) (started : os.Started) (H : Type) (enc : TypeId × Value → H) :
    ReturnsInHanded {} Try.checked os 3 .any (Rows.ntpOfNothingSpec.pre6 enc Try.prog Try.f3 Rows.ntpOfNothingRow.domain false) (Rows.ntpOfNothingSpec.post enc Try.prog Try.f3 false true false false) := by
  refine returnsInHanded_of_change_sized (C := Try.checked) law_own started (by kernel_rfl) Try.func3
    (ChangeSpec.witness6 (enc := enc) (C := Try.checked) false ⟨#[], #[.int .i64 0, .slice none 0 0], []⟩ 8 (by kernel_rfl) (by kernel_rfl) (by kernel_rfl) (by kernel_rfl)) ?_
  intro W base args ds gs before hval0 hW hcnd hsz0 _
  have hval : ∀ (j : Nat) t v, Try.f3.params[j]? = some t → args[j]? = some v → Value.okWide Try.prog W .any base t v := hval0
  have hsz : (DataW.weightsEach Try.prog (Try.f3.params.toList ++ Rows.ntpOfNothingSpec.plain.varTypes Try.prog) (ds ++ gs)).all (· ≤ reachBytes) = true := hsz0
  have hW' := hW
  obtain ⟨p, q, hA0, hV, rfl, hfz, hnd⟩ := hW
  have hA : DataW.TrodAll enc Try.prog W 0 (fun _ => true) true Try.f3.params.toList args.toList ds p := hA0
  rw [Try.params3] at hA hval hsz
  have hsame : (Rows.ntpOfNothingSpec.fn H (ds ++ gs)).results = [.lit (.bool true)] ∧ (Rows.ntpOfNothingSpec.fn H (ds ++ gs)).args = ds ∧ (Rows.ntpOfNothingSpec.fn H (ds ++ gs)).vars = [] → ∀ W', Below W.heap.size W W' → Rows.ntpOfNothingSpec.post enc Try.prog Try.f3 false true false false W args (.bool true) W' :=
    fun h W' hb => law_post (tb := 4) hW' law_laid (by kernel_rfl) rfl Try.underlying4 h.1 h.2.1 rfl h.2.2 hb
  obtain ⟨v0, vs0, d0, ds0, p0, q0, hargs, rfl, rfl, h0, r0⟩ := trodAll_cons hA
  obtain ⟨v1, vs1, d1, ds1, p1, q1, rfl, rfl, rfl, h1, r1⟩ := trodAll_cons r0
  obtain ⟨rfl, rfl, rfl⟩ := trodAll_nil r1
  obtain rfl : args = #[v0, v1] := by cases args; simp_all
  obtain ⟨rfl, rfl⟩ := trodVars_none hV
  have hpost := hsame ⟨rfl, rfl, rfl⟩
  clear hsame hA0 hval0 hsz0
  obtain ⟨a0, rfl, rfl, rfl, wf0⟩ := open_int Try.underlying3 (hval 0 3 v0 rfl rfl) h0
  obtain ⟨A, n, c, f, rfl, _, hn, hB, hf, _⟩ := open_u8_slice (hval 1 22 v1 rfl rfl) h1
  have hw : Calls Try.prog 3 #[.int .i64 a0, .slice A n c] W fun e w' => e = .returned (.bool true) ∧ Below W.heap.size W w' := by
    by_cases h : n ≤ 1000
    · exact ofNothing9_in a0 A n c W h
    · exact ofNothing9_big a0 A n c W (by omega)
  exact (hw).mono fun e W' ⟨he, hb⟩ => ⟨_, he, hpost W' hb⟩
theorem ntpOfNothing_holds : Rows.NtpOfNothingSaid :=
  OpenClaim.holds_of_wide 3 Try.f3 rfl rfl rfl rfl rfl rfl rfl ⟨rfl, rfl, rfl, rfl, rfl⟩ rfl rfl rfl rfl rfl (by kernel_rfl) Try.func3 (by kernel_rfl)
    (of_decide_eq_true (by kernel_rfl)) (by unfold Func.isWrapper; first | (rw [if_pos (by decide +kernel)]; kernel_rfl) | (rw [if_neg (by decide +kernel)]; exact ⟨rfl, rfl⟩))
    (fun os started H enc _ => ntpOfNothing_lifted os started H enc)
end Go.Proofs.Ytepdnkpmkhjlgaa
