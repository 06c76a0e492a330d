/- Stage 3: LeapSums: over any days the lengths add up to 86400 each and the difference of the offsets: for every leaps and days. -/
import Derived.Test.YtonleiffbfdikaaDoorDoor3
import Derived.Test.YtonleiffbfdikaaDoorLeapAns
set_option linter.unusedSimpArgs false
set_option linter.unusedVariables false
namespace Go.Proofs.YtonleiffbfdikaaDoor
open Go.ChangeShapes Go.WideShapes Go.ChangeAt Go.RowKit Go.Joins

theorem sums_out (A : Option Addr) (n c : Nat) (x f d : Int) (w : World) (h : 300 < n ∨ d < 0 ∨ 800 < d ∨ f < -1099511627776 ∨ 1099511627776 < f) :
    Calls Tryd.prog 6 #[.agg #[.slice A n c, .int .i64 x], .int .i64 f, .int .i64 d] w fun e w' => e = .returned (.bool true) ∧ Below w.heap.size w w' := by
  rcases (show decide ((300 : Int) < (n : Int)) = true ∨ (decide ((300 : Int) < (n : Int)) = false ∧ decide (d < 0) = true) ∨ (decide ((300 : Int) < (n : Int)) = false ∧ decide (d < 0) = false ∧ decide (800 < d) = true) ∨ (decide ((300 : Int) < (n : Int)) = false ∧ decide (d < 0) = false ∧ decide (800 < d) = false ∧ decide (f < -1099511627776) = true) ∨ (decide ((300 : Int) < (n : Int)) = false ∧ decide (d < 0) = false ∧ decide (800 < d) = false ∧ decide (f < -1099511627776) = false ∧ decide (1099511627776 < f) = true) from by simp only [decide_eq_true_eq, decide_eq_false_iff_not]; omega) with k1 | ⟨k1, k2⟩ | ⟨k1, k2, k3⟩ | ⟨k1, k2, k3, k4⟩ | ⟨k1, k2, k3, k4, k5⟩
  all_goals
    clear h
    go_enter Tryd.func6, Tryd.ntmps6
    go_wp2
    go_ret
    go_light
    exact ⟨rfl, by (repeat' (first | (with_reducible exact Below.refl _ _) | (with_reducible assumption) | (with_reducible refine Below.trans ?_ (Below.mono (by with_reducible assumption) ?_)) | (with_reducible refine Below.alloc ?_ ?_ _) | (with_reducible refine Below.setCell ?_ ?_ _) | (with_reducible refine below_drewN ?_ _) | (with_reducible refine Below.drew ?_) | go_size))⟩
set_option maxRecDepth 100000 in
set_option maxHeartbeats 8000000 in
theorem sums_in (A : Option Addr) (n c : Nat) (x f : Int) (m : Nat) (z : Nat → Int) (off : Int → Int) (w : World) (hm : Mx w) (hz : FlatAt w A 2 n z) (ha : LeapAns A n c x z off) (h0 : n ≤ 300) (h1 : m ≤ 800) (h2 : -1099511627776 ≤ f) (h3 : f ≤ 1099511627776) :
    Calls Tryd.prog 6 #[.agg #[.slice A n c, .int .i64 x], .int .i64 f, .int .i64 (m : Int)] w fun e w' => e = .returned (.bool true) ∧ Below w.heap.size w w' := by
  have HM := Lib.hid hm
  have HZ := Lib.hid hz
  have HA := Lib.hid ha
  have k1 : decide ((300 : Int) < (n : Int)) = false := by simp only [decide_eq_false_iff_not]; omega
  have k2 : decide ((m : Int) < 0) = false := by simp only [decide_eq_false_iff_not]; omega
  have k3 : decide (800 < (m : Int)) = false := by simp only [decide_eq_false_iff_not]; omega
  have k4 : decide (f < -1099511627776) = false := by simp only [decide_eq_false_iff_not]; omega
  have k5 : decide (1099511627776 < f) = false := by simp only [decide_eq_false_iff_not]; omega
  have HB0 : Below w.heap.size w (w.alloc (.cells #[.slice A n c, .int .i64 x] 24)) := by (repeat' (first | (with_reducible exact Below.refl _ _) | (with_reducible assumption) | (with_reducible refine Below.trans ?_ (Below.mono (by with_reducible assumption) ?_)) | (with_reducible refine Below.alloc ?_ ?_ _) | (with_reducible refine Below.setCell ?_ ?_ _) | (with_reducible refine below_drewN ?_ _) | (with_reducible refine Below.drew ?_) | go_size))
  have q0 : (w.alloc (.cells #[.slice A n c, .int .i64 x] 24)).cell? ⟨w.heap.size, 0, none⟩ = some (.slice A n c) := by simp
  have q1 : (w.alloc (.cells #[.slice A n c, .int .i64 x] 24)).cell? ⟨w.heap.size, 1, none⟩ = some (.int .i64 x) := by simp
  have l1 : w.heap.size < (w.alloc (.cells #[.slice A n c, .int .i64 x] 24)).heap.size := by simp
  have b0 := ha.bd f
  clear hm hz ha
  go_enter Tryd.func6, Tryd.ntmps6
  go_wp2_with fail
  go_loopw [7, 8] (fun s i wr => ∃ k : Nat, k ≤ m ∧ i = .int .i64 k ∧ s = .int .i64 (86400 * (k : Int) + off (f + k) - off f) ∧ wr.cell? ⟨w.heap.size, 0, none⟩ = some (.slice A n c) ∧ wr.cell? ⟨w.heap.size, 1, none⟩ = some (.int .i64 x) ∧ w.heap.size < wr.heap.size ∧ Below w.heap.size w wr) (fun _ i _ => m - (intOf i).toNat)
  case atStart => exact ⟨0, Nat.zero_le _, rfl, by simp, q0, q1, l1, HB0⟩
  case round =>
    obtain ⟨k, hk, rfl, rfl, q0, q1, l1, HB⟩ := hrel
    have b1 := HA.out.bd (f + k)
    by_cases hlt : k < m
    · have b2 := HA.out.bd (f + (k + 1 : Nat))
      have w1 : IntKind.i64.wrap (f + (k : Int)) = f + (k : Int) := IntWalk.i64_in _ (by omega)
      have HL := Lib.hid (HA.out.L (f + k) wr (HZ.out.below HB) (by omega) (by omega))
      rw [next_lt (show f + (k : Int) < 9223372036854775807 from by omega), show f + (k : Int) + 1 = f + (k + 1 : Nat) from by omega] at HL
      have w2' : IntKind.i64.wrap (86400 * (k : Int) + off (f + k) - off f + (86400 + off (f + (k + 1 : Nat)) - off (f + k))) = 86400 * ((k + 1 : Nat) : Int) + off (f + (k + 1 : Nat)) - off f := by
        refine (IntWalk.i64_in _ (by omega)).trans ?_
        omega
      have W2 := Lib.hid w2'
      generalize ho1 : off (f + (k + 1 : Nat)) = o1 at *
      generalize ho2 : off (f + k) = o2 at *
      generalize ho3 : off f = o3 at *
      have O1 := Lib.hid ho1
      have O3 := Lib.hid ho3
      clear ho1 ho2 ho3 w2'
      go_wp2_with fail
      refine HL.out.mono ?_; rintro e w5 ⟨rfl, hb5⟩
      have q0 := (hb5.cell (p := ⟨w.heap.size, 0, none⟩) l1).trans q0
      have q1 := (hb5.cell (p := ⟨w.heap.size, 1, none⟩) l1).trans q1
      have l1 := Nat.lt_of_lt_of_le l1 hb5.size
      have HB := HB.trans (hb5.mono HB.size)
      clear hb5
      have w2' := W2.out
      go_wp2
      go_roundw
      case rel => exact ⟨k + 1, by omega, by go_num, by rw [O1.out]; exact congrArg (Value.int .i64) (by omega), q0, q1, l1, HB⟩
      case measure => simp [intOf]; omega
    · obtain rfl : k = m := by omega
      have HBR := Lib.hid HB
      have w1 : IntKind.i64.wrap (f + (k : Int)) = f + (k : Int) := IntWalk.i64_in _ (by omega)
      have w2 : IntKind.i64.wrap (86400 * (k : Int)) = 86400 * (k : Int) := IntWalk.i64_in _ (by omega)
      have w3 : IntKind.i64.wrap (86400 * (k : Int) + off (f + k)) = 86400 * (k : Int) + off (f + k) := IntWalk.i64_in _ (by omega)
      have w4 : IntKind.i64.wrap (86400 * (k : Int) + off (f + k) - off f) = 86400 * (k : Int) + off (f + k) - off f := IntWalk.i64_in _ (by omega)
      have te : (86400 * (k : Int) + off (f + k) - off f == 86400 * (k : Int) + off (f + k) - off f) = true := by simp
      have HX0 := Below.refl wr.heap.size wr
      go_wp2_with fail
      go_region_held3 (fun w' => w'.cell? ⟨w.heap.size, 0, none⟩ = some (.slice A n c) ∧ w'.cell? ⟨w.heap.size, 1, none⟩ = some (.int .i64 x)) (exact ⟨q0, q1⟩)
        (first
          | (go_at_call 16; refine (HA.out.O _ _ (HZ.out.below (HBR.out.trans (Below.mono (show Below wr.heap.size wr _ from (by (repeat' (first | (with_reducible exact Below.refl _ _) | (with_reducible assumption) | (with_reducible refine Below.trans ?_ (Below.mono (by with_reducible assumption) ?_)) | (with_reducible refine Below.alloc ?_ ?_ _) | (with_reducible refine Below.setCell ?_ ?_ _) | (with_reducible refine below_drewN ?_ _) | (with_reducible refine Below.drew ?_) | go_size)))) HBR.out.size)))).mono ?_; rintro e w5 ⟨rfl, hb5⟩; have q0 := (hb5.cell (p := ⟨w.heap.size, 0, none⟩) l1).trans q0; have q1 := (hb5.cell (p := ⟨w.heap.size, 1, none⟩) l1).trans q1; have l1 := Nat.lt_of_lt_of_le l1 hb5.size; have HX : Below wr.heap.size wr w5 := Below.trans (by (repeat' (first | (with_reducible exact Below.refl _ _) | (with_reducible assumption) | (with_reducible refine Below.trans ?_ (Below.mono (by with_reducible assumption) ?_)) | (with_reducible refine Below.alloc ?_ ?_ _) | (with_reducible refine Below.setCell ?_ ?_ _) | (with_reducible refine below_drewN ?_ _) | (with_reducible refine Below.drew ?_) | go_size))) (hb5.mono (Below.size (show Below wr.heap.size wr _ from (by (repeat' (first | (with_reducible exact Below.refl _ _) | (with_reducible assumption) | (with_reducible refine Below.trans ?_ (Below.mono (by with_reducible assumption) ?_)) | (with_reducible refine Below.alloc ?_ ?_ _) | (with_reducible refine Below.setCell ?_ ?_ _) | (with_reducible refine below_drewN ?_ _) | (with_reducible refine Below.drew ?_) | go_size)))))))
          | (go_at_call 15; refine (known3 _ (HM.out.below (HBR.out.trans (Below.mono (show Below wr.heap.size wr _ from (by (repeat' (first | (with_reducible exact Below.refl _ _) | (with_reducible assumption) | (with_reducible refine Below.trans ?_ (Below.mono (by with_reducible assumption) ?_)) | (with_reducible refine Below.alloc ?_ ?_ _) | (with_reducible refine Below.setCell ?_ ?_ _) | (with_reducible refine below_drewN ?_ _) | (with_reducible refine Below.drew ?_) | go_size)))) HBR.out.size)))).mono ?_; rintro e w5 ⟨rfl, hb5⟩; have q0 := (hb5.cell (p := ⟨w.heap.size, 0, none⟩) l1).trans q0; have q1 := (hb5.cell (p := ⟨w.heap.size, 1, none⟩) l1).trans q1; have l1 := Nat.lt_of_lt_of_le l1 hb5.size; have HX : Below wr.heap.size wr w5 := Below.trans (by (repeat' (first | (with_reducible exact Below.refl _ _) | (with_reducible assumption) | (with_reducible refine Below.trans ?_ (Below.mono (by with_reducible assumption) ?_)) | (with_reducible refine Below.alloc ?_ ?_ _) | (with_reducible refine Below.setCell ?_ ?_ _) | (with_reducible refine below_drewN ?_ _) | (with_reducible refine Below.drew ?_) | go_size))) (hb5.mono (Below.size (show Below wr.heap.size wr _ from (by (repeat' (first | (with_reducible exact Below.refl _ _) | (with_reducible assumption) | (with_reducible refine Below.trans ?_ (Below.mono (by with_reducible assumption) ?_)) | (with_reducible refine Below.alloc ?_ ?_ _) | (with_reducible refine Below.setCell ?_ ?_ _) | (with_reducible refine below_drewN ?_ _) | (with_reducible refine Below.drew ?_) | go_size))))))))
      go_wp2
      go_ret
      go_light
      exact ⟨rfl, HBR.out.trans (HX.mono HBR.out.size)⟩
set_option maxRecDepth 100000 in
theorem leapSums_contract (H : Type) (enc : TypeId × Value → H) (W : World) (base : Nat) (args : Array Value) (ds gs : List (DataW H)) (before : List MemPlace)
    (hval0 : ∀ (j : Nat) t v, Tryd.f6.params[j]? = some t → args[j]? = some v → Value.okWide Tryd.prog W .any base t v)
    (hW : DataW.Whole enc Tryd.prog Tryd.f6.params.toList Rows.leapSumsSpec.vars false W args.toList ds gs before)
    (hsz0 : (DataW.weightsEach Tryd.prog (Tryd.f6.params.toList ++ (OpenSpec.ofChange Rows.leapSumsSpec).bare.plain.varTypes Tryd.prog) (ds ++ gs)).all (· ≤ reachBytes) = true) (hL : laidMetH Tryd.prog Rows.leapSumsRow.laid W) (hS : W.ShapedOpen Tryd.prog) :
    Calls Tryd.prog 6 args W fun e W' => ∃ v, e = .returned v ∧ Rows.leapSumsSpec.post enc Tryd.prog Tryd.f6 false true false false W args v W' := by
  have hval : ∀ (j : Nat) t v, Tryd.f6.params[j]? = some t → args[j]? = some v → Value.okWide Tryd.prog W .any base t v := hval0
  have hsz := hsz0
  have hW' := hW
  obtain ⟨p, q, hA0, hV, rfl, hfz, hnd⟩ := hW
  have hA : DataW.TrodAll enc Tryd.prog W 0 (fun _ => true) true Tryd.f6.params.toList args.toList ds p := hA0
  rw [Tryd.params6] at hA hval hsz
  have hsame : (Rows.leapSumsSpec.fn H (ds ++ gs)).results = [.lit (.bool true)] ∧ (Rows.leapSumsSpec.fn H (ds ++ gs)).args = ds ∧ (Rows.leapSumsSpec.fn H (ds ++ gs)).vars = [] → ∀ W', Below W.heap.size W W' → Rows.leapSumsSpec.post enc Tryd.prog Tryd.f6 false true false false W args (.bool true) W' :=
    fun h W' hb => law_post (tb := 4) hW' law_laid (by kernel_rfl) rfl Tryd.underlying4 h.1 h.2.1 rfl h.2.2 hb
  obtain ⟨v0, vs0, d0, ds0, p0, q0, hargs, rfl, rfl, h0, r0⟩ := trodAll_cons hA
  obtain ⟨v1, vs1, d1, ds1, p1, q1, rfl, rfl, rfl, h1, r1⟩ := trodAll_cons r0
  obtain ⟨v2, vs2, d2, ds2, p2, q2, rfl, rfl, rfl, h2, r2⟩ := trodAll_cons r1
  obtain ⟨rfl, rfl, rfl⟩ := trodAll_nil r2
  obtain rfl : args = #[v0, v1, v2] := by cases args; simp_all
  obtain ⟨rfl, rfl⟩ := trodVars_none hV
  have hpost := hsame ⟨rfl, rfl, rfl⟩
  clear hsame hA0 hval0 hsz0
  obtain ⟨A, n, c, z, x, rfl, hn, hz, _⟩ := open_table (hval 0 24 v0 rfl rfl) h0
  obtain ⟨a1, rfl, rfl, rfl, wf1⟩ := open_int Tryd.underlying3 (hval 1 3 v1 rfl rfl) h1
  obtain ⟨a2, rfl, rfl, rfl, wf2⟩ := open_int Tryd.underlying3 (hval 2 3 v2 rfl rfl) h2
  have hm := mx_of_shaped hS
  obtain ⟨off, ha⟩ := leapAns_ex A n c x z hn
  by_cases h : 300 < n ∨ a2 < 0 ∨ 800 < a2 ∨ a1 < -1099511627776 ∨ 1099511627776 < a1
  · exact (sums_out A n c x a1 a2 W h).mono fun e W' ⟨he, hb⟩ => ⟨_, he, hpost W' hb⟩
  · obtain ⟨m, rfl⟩ := Int.eq_ofNat_of_zero_le (show 0 ≤ a2 by omega)
    exact (sums_in A n c x a1 m z off W hm hz ha (by omega) (by omega) (by omega) (by omega)).mono fun e W' ⟨he, hb⟩ => ⟨_, he, hpost W' hb⟩
theorem leapSums_reads (os : Os) {H : Type} (enc : TypeId × Value → H) : (DataW.whole enc Tryd.prog ((layW os).forCall (fun _ _ => 0) ⟨#[], #[.agg #[.slice none 0 0, .int .i64 0], .int .i64 0, .int .i64 0], []⟩).memory Tryd.f6.params.toList Rows.leapSumsSpec.vars false #[.agg #[.slice none 0 0, .int .i64 0], .int .i64 0, .int .i64 0].toList 8).isSome = true := by kernel_rfl
theorem leapSums_met (os : Os) : laidMet Tryd.prog Rows.leapSumsRow.laid ((layW os).forCall (fun _ _ => 0) ⟨#[], #[.agg #[.slice none 0 0, .int .i64 0], .int .i64 0, .int .i64 0], []⟩).memory := laidMet_of_run' 8 (by kernel_rfl) (by kernel_rfl)
set_option maxRecDepth 100000 in
theorem leapSums_lifted (os : Os) (started : os.Started) (H : Type) (enc : TypeId × Value → H) (F : Stop.Interp) :
    ReturnsInHanded {} Tryd.checked os 6 .any ((OpenSpec.ofChange Rows.leapSumsSpec).preRow enc Tryd.prog Tryd.f6 Rows.leapSumsRow.domain false Rows.leapSumsRow.laid) (((OpenSpec.ofChange Rows.leapSumsSpec).at F).post enc Tryd.prog Tryd.f6 false true false false) := by
  obtain ⟨x, hx⟩ := Option.isSome_iff_exists.1 (leapSums_reads os enc)
  refine returnsInHanded_of_row (C := Tryd.checked) (s := OpenSpec.ofChange Rows.leapSumsSpec) law_own started (by kernel_rfl) Tryd.func6
    (witness_row_at (enc := enc) (C := Tryd.checked) false (layW os) #[.agg #[.slice none 0 0, .int .i64 0], .int .i64 0, .int .i64 0] rfl (by kernel_rfl) (by kernel_rfl) (by kernel_rfl)
      (OpenSpec.preRow_of_cond 8 hx (by rfl) (fun k hk => by cases hk) (by kernel_rfl) (leapSums_met os))) ?_
  intro W base args ds gs before hval hW _ _ hsz hL hS _
  exact leapSums_contract H enc W base args ds gs before hval hW hsz hL hS
theorem leapSums_said : Rows.LeapSumsSaid :=
  OpenClaim.holds_of_cond 6 Tryd.f6 rfl rfl rfl rfl rfl rfl rfl ⟨rfl, rfl, rfl, rfl, rfl⟩ rfl rfl rfl rfl rfl (by kernel_rfl) Tryd.func6 (by kernel_rfl)
    (of_decide_eq_true (by kernel_rfl)) (by unfold Func.isWrapper; first | (rw [if_pos (by decide +kernel)]; kernel_rfl) | (rw [if_neg (by decide +kernel)]; exact ⟨rfl, rfl⟩))
    (fun os started H enc _ F => by rw [OpenClaim.pre_eq_preRow]; exact leapSums_lifted os started H enc F)
theorem leapSums_holds : Rows.LeapSumsCardSaid :=
  Claim7.holds_tied_plain_at .later [] _ _ _ _ leapSums_said (fun _ h => by cases h) (by kernel_rfl) (fun _ h => by cases h) leapSums_row_tie rfl ⟨rfl, rfl⟩ (by kernel_rfl) rfl (plain_of (f0 := 6) (fn0 := Tryd.f6) (by kernel_rfl) Tryd.func6 (by kernel_rfl) (by kernel_rfl)) (by kernel_rfl)
end Go.Proofs.YtonleiffbfdikaaDoor
