/- Stage 4: ScaleTai (written by gen/s4t.py). -/
import Derived.Test.YtklahiogcpojmaaS4E
import Derived.Test.YtklahiogcpojmaaRef4Tai
set_option linter.unusedSimpArgs false
set_option linter.unusedVariables false
namespace Go.Proofs.Ytklahiogcpojmaa
open Go.ChangeShapes Go.WideShapes Go.ChangeAt Go.RowKit Go.Joins

set_option maxRecDepth 100000 in
set_option maxHeartbeats 8000000 in
theorem scale_tai_day (A : Option Addr) (n c : Nat) (x day nano : Int) (z : Nat → Int) (w : World) (hz : FlatAt w A 2 n z) (ht : IsTab z n x) (hdd : day < -719162 ∨ 2932896 < day) :
    Calls Try.prog 17 #[.agg #[.slice A n c, .int .i64 x], .agg #[.int .i64 day, .int .i64 nano]] w fun e w' => e = .returned (.tuple #[.int .i64 0, .int .i64 1]) ∧ Below w.heap.size w w' := by
  have HB0 : Below w.heap.size w ((w.alloc (.cells #[.slice A n c, .int .i64 x] 30)).alloc (.cells #[.int .i64 day, .int .i64 nano] 32)) := by (repeat' (first | (with_reducible exact Below.refl _ _) | (with_reducible assumption) | (with_reducible refine Below.trans ?_ (Below.mono (by with_reducible assumption) ?_)) | (with_reducible refine Below.alloc ?_ ?_ _) | (with_reducible refine Below.setCell ?_ ?_ _) | (with_reducible refine below_drewN ?_ _) | (with_reducible refine Below.drew ?_) | go_size))
  have hd := fun W : World => cal_date_no day W hdd
  have HD := Lib.hid hd
  have HT := Lib.hid ht
  have HZ := Lib.hid hz
  clear hz ht hd hdd
  go_enter Try.func17, Try.ntmps17
  go_wp2_with fail
  refine (leap_is_yes A n c x z _ (HZ.out.below HB0) HT.out).mono ?_; rintro e w1 ⟨rfl, hb1⟩
  have HB1 : Below w.heap.size w w1 := HB0.trans (hb1.mono HB0.size)
  have q0 : w1.cell? ⟨w.heap.size, 0, none⟩ = some (.slice A n c) := (hb1.cell (p := ⟨w.heap.size, 0, none⟩) (by simp; omega)).trans (by simp [go_sem])
  have q1 : w1.cell? ⟨w.heap.size, 1, none⟩ = some (.int .i64 x) := (hb1.cell (p := ⟨w.heap.size, 1, none⟩) (by simp; omega)).trans (by simp [go_sem])
  have q2 : w1.cell? ⟨w.heap.size + 1, 0, none⟩ = some (.int .i64 day) := (hb1.cell (p := ⟨w.heap.size + 1, 0, none⟩) (by simp)).trans (by simp [go_sem])
  have q3 : w1.cell? ⟨w.heap.size + 1, 1, none⟩ = some (.int .i64 nano) := (hb1.cell (p := ⟨w.heap.size + 1, 1, none⟩) (by simp)).trans (by simp [go_sem])
  have l1 : w.heap.size + 1 < w1.heap.size := by have := hb1.size; simp at this; omega
  clear hb1
  go_wp2_with fail
  refine (HD.out _).mono ?_; rintro e w2 ⟨rfl, hb2⟩
  have HB2 : Below w.heap.size w w2 := HB1.trans (hb2.mono HB1.size)
  have l0 : w.heap.size < w1.heap.size := by omega
  have p0 := (hb2.cell (p := ⟨w.heap.size, 0, none⟩) l0).trans q0
  have p1 := (hb2.cell (p := ⟨w.heap.size, 1, none⟩) l0).trans q1
  have p2 := (hb2.cell (p := ⟨w.heap.size + 1, 0, none⟩) l1).trans q2
  have p3 := (hb2.cell (p := ⟨w.heap.size + 1, 1, none⟩) l1).trans q3
  have l2 : w.heap.size + 1 < w2.heap.size := Nat.lt_of_lt_of_le l1 hb2.size
  clear hb2 q0 q1 q2 q3 l0 l1
  have a0 : w.heap.size < w2.heap.size := by omega
  go_wp2
  have P0 : (w2.alloc (.cells #[.int .i64 0, .int .i64 0, .int .i64 0] 50)).cell? ⟨w.heap.size, 0, none⟩ = some (.slice A n c) := (World.cell?_alloc_past _ _ _ a0).trans p0
  have P1 : (w2.alloc (.cells #[.int .i64 0, .int .i64 0, .int .i64 0] 50)).cell? ⟨w.heap.size, 1, none⟩ = some (.int .i64 x) := (World.cell?_alloc_past _ _ _ a0).trans p1
  have P2 : (w2.alloc (.cells #[.int .i64 0, .int .i64 0, .int .i64 0] 50)).cell? ⟨w.heap.size + 1, 0, none⟩ = some (.int .i64 day) := (World.cell?_alloc_past _ _ _ l2).trans p2
  have P3 : (w2.alloc (.cells #[.int .i64 0, .int .i64 0, .int .i64 0] 50)).cell? ⟨w.heap.size + 1, 1, none⟩ = some (.int .i64 nano) := (World.cell?_alloc_past _ _ _ l2).trans p3
  have HB2' : Below w.heap.size w (w2.alloc (.cells #[.int .i64 0, .int .i64 0, .int .i64 0] 50)) := HB2.alloc HB2.size _
  have l2' : w.heap.size + 1 < (w2.alloc (.cells #[.int .i64 0, .int .i64 0, .int .i64 0] 50)).heap.size := by simp; omega
  generalize w2.alloc (.cells #[.int .i64 0, .int .i64 0, .int .i64 0] 50) = w3 at *
  clear p0 p1 p2 p3 l2 a0 HB2
  have a0 : w.heap.size < w3.heap.size := by omega
  have z3 := HB2'.size
  go_quiet (fail)
  go_wp2
  go_ret2
  go_light
  exact ⟨rfl, by (repeat' (first | (with_reducible exact Below.refl _ _) | (with_reducible assumption) | (with_reducible refine Below.trans ?_ (Below.mono (by with_reducible assumption) ?_)) | (with_reducible refine Below.alloc ?_ ?_ _) | (with_reducible refine Below.setCell ?_ ?_ _) | (with_reducible refine below_drewN ?_ _) | (with_reducible refine Below.drew ?_) | go_size))⟩
def day_in (d : Int) : Prop := -719162 ≤ d ∧ d ≤ 2932896
instance (d : Int) : Decidable (day_in d) := inferInstanceAs (Decidable (_ ∧ _))
/-- What both tell of any moment. -/
theorem tai_both (A : Option Addr) (n c : Nat) (x d m : Int) (z : Nat → Int) (hn : n ≤ maxLen) (wm : -9223372036854775808 ≤ m ∧ m ≤ 9223372036854775807) : ∃ v k : Int,
    (∀ w : World, FlatAt w A 2 n z → Calls Try.prog 17 #[.agg #[.slice A n c, .int .i64 x], .agg #[.int .i64 d, .int .i64 m]] w fun e w' => e = .returned (.tuple #[.int .i64 v, .int .i64 k]) ∧ Below w.heap.size w w') ∧
    (∀ w : World, FlatAt w A 2 n z → Calls Try.prog 18 #[.agg #[.slice A n c, .int .i64 x], .agg #[.int .i64 d, .int .i64 m]] w fun e w' => e = .returned (.tuple #[.int .i64 v, .int .i64 k]) ∧ Below w.heap.size w w') := by
  by_cases ht : IsTab z n x
  · by_cases hd : day_in d
    · have hd' : -719162 ≤ d ∧ d ≤ 2932896 := hd
      by_cases h0 : m < 0
      · exact ⟨0, 1, fun w hz => scale_tai_neg A n c x d m z w hz ht hd'.1 hd'.2 h0, fun w hz => ref4_tai_neg A n c x d m z w hz hn ht hd'.1 hd'.2 h0⟩
      · by_cases h1 : m < lenS z n d * 1000000000
        · exact ⟨_, 0, fun w hz => scale_tai_ok A n c x d m z w hz ht hd'.1 hd'.2 (by omega) h1, fun w hz => ref4_tai_ok A n c x d m z w hz hn ht hd'.1 hd'.2 (by omega) h1⟩
        · exact ⟨0, 1, fun w hz => scale_tai_late A n c x d m z w hz ht hd'.1 hd'.2 (by omega) (by unfold lenS at h1; omega), fun w hz => ref4_tai_late A n c x d m z w hz hn ht hd'.1 hd'.2 (by omega) (by omega)⟩
    · have hd' : d < -719162 ∨ 2932896 < d := by unfold day_in at hd; omega
      exact ⟨0, 1, fun w hz => scale_tai_day A n c x d m z w hz ht hd', fun w hz => ref4_tai_day A n c x d m z w hz hn ht hd'⟩
  · exact ⟨0, 1, fun w hz => scale_tai_notab A n c x d m z w hz hn ht, fun w hz => ref4_tai_notab A n c x d m z w hz hn ht⟩
set_option maxHeartbeats 2000000 in
theorem tai_long (A : Option Addr) (n c : Nat) (x d m : Int) (w : World) (h : 200 < n) :
    Calls Try.prog 5 #[.agg #[.slice A n c, .int .i64 x], .agg #[.int .i64 d, .int .i64 m]] w fun e w' => e = .returned (.bool true) ∧ Below w.heap.size w w' := by
  have h' : (200 : Int) < (n : Int) := by omega
  go_enter Try.func5, Try.ntmps5
  go_wp2
  go_ret
  go_light
  exact ⟨rfl, by (repeat' (first | (with_reducible exact Below.refl _ _) | (with_reducible assumption) | (with_reducible refine Below.trans ?_ (Below.mono (by with_reducible assumption) ?_)) | (with_reducible refine Below.alloc ?_ ?_ _) | (with_reducible refine Below.setCell ?_ ?_ _) | (with_reducible refine below_drewN ?_ _) | (with_reducible refine Below.drew ?_) | go_size))⟩
set_option maxRecDepth 100000 in
set_option maxHeartbeats 4000000 in
theorem tai_in (A : Option Addr) (n c : Nat) (x d m : Int) (z : Nat → Int) (w : World) (hz : FlatAt w A 2 n z) (hn : n ≤ 200) (wm : -9223372036854775808 ≤ m ∧ m ≤ 9223372036854775807) :
    Calls Try.prog 5 #[.agg #[.slice A n c, .int .i64 x], .agg #[.int .i64 d, .int .i64 m]] w fun e w' => e = .returned (.bool true) ∧ Below w.heap.size w w' := by
  have h' : decide ((200 : Int) < (n : Int)) = false := by simp only [decide_eq_false_iff_not]; omega
  have h'' : (n : Int) ≤ 200 := by omega
  have HB0 : Below w.heap.size w ((w.alloc (.cells #[.slice A n c, .int .i64 x] 30)).alloc (.cells #[.int .i64 d, .int .i64 m] 32)) := by (repeat' (first | (with_reducible exact Below.refl _ _) | (with_reducible assumption) | (with_reducible refine Below.trans ?_ (Below.mono (by with_reducible assumption) ?_)) | (with_reducible refine Below.alloc ?_ ?_ _) | (with_reducible refine Below.setCell ?_ ?_ _) | (with_reducible refine below_drewN ?_ _) | (with_reducible refine Below.drew ?_) | go_size))
  have HZ := Lib.hid hz
  obtain ⟨v, k, T1, T2⟩ := tai_both A n c x d m z (by unfold maxLen; omega) wm
  have HT1 := Lib.hid T1
  have HT2 := Lib.hid T2
  clear hz T1 T2 wm hn
  go_enter Try.func5, Try.ntmps5
  go_wp2_with fail
  refine (HT1.out _ (HZ.out.below HB0)).mono ?_; rintro e w1 ⟨rfl, hb1⟩
  have HB1 : Below w.heap.size w w1 := HB0.trans (hb1.mono HB0.size)
  have q0 : w1.cell? ⟨w.heap.size, 0, none⟩ = some (.slice A n c) := (hb1.cell (p := ⟨w.heap.size, 0, none⟩) (by simp; omega)).trans (by simp [go_sem])
  have q1 : w1.cell? ⟨w.heap.size, 1, none⟩ = some (.int .i64 x) := (hb1.cell (p := ⟨w.heap.size, 1, none⟩) (by simp; omega)).trans (by simp [go_sem])
  have q2 : w1.cell? ⟨w.heap.size + 1, 0, none⟩ = some (.int .i64 d) := (hb1.cell (p := ⟨w.heap.size + 1, 0, none⟩) (by simp)).trans (by simp [go_sem])
  have q3 : w1.cell? ⟨w.heap.size + 1, 1, none⟩ = some (.int .i64 m) := (hb1.cell (p := ⟨w.heap.size + 1, 1, none⟩) (by simp)).trans (by simp [go_sem])
  clear hb1
  go_wp2_with fail
  refine (HT2.out _ (HZ.out.below HB1)).mono ?_; rintro e w2 ⟨rfl, hb2⟩
  have HB2 : Below w.heap.size w w2 := HB1.trans (hb2.mono HB1.size)
  have z2 := HB2.size
  clear hb2 q0 q1 q2 q3 HB0 HB1 HT1 HT2 HZ
  go_wp2_with (go_at_call 14; refine (known4 _).mono ?_; rintro e w5 ⟨rfl, hb5⟩; obtain ⟨hc5, hf5⟩ := bcell hb5; have hz5 := hb5.size; (try simp only [World.size_alloc, World.size_setCell, World.heap_drewN] at hb5 hc5 hf5 hz5); (try have ha05 : w.heap.size < w5.heap.size := by omega); (try have ha15 : w.heap.size + 1 < w5.heap.size := by omega); (try have ha25 : w.heap.size + 2 < w5.heap.size := by omega); (try have hal5 : w.heap.size ≤ w5.heap.size := by omega); (try have ham5 : w.heap.size < w5.heap.size + 2 := by omega))
  go_ret
  go_light
  exact ⟨rfl, by (repeat' (first | (with_reducible exact Below.refl _ _) | (with_reducible assumption) | (with_reducible refine Below.trans ?_ (Below.mono (by with_reducible assumption) ?_)) | (with_reducible refine Below.alloc ?_ ?_ _) | (with_reducible refine Below.setCell ?_ ?_ _) | (with_reducible refine below_drewN ?_ _) | (with_reducible refine Below.drew ?_) | go_size))⟩
theorem i64_wf {v : Int} (h : (Lit.int .i64 v).wf = true) : -9223372036854775808 ≤ v ∧ v ≤ 9223372036854775807 := by
  simp [Lit.wf, IntKind.min, IntKind.max, IntKind.signed, IntKind.bits] at h
  exact ⟨by omega, by omega⟩
set_option maxRecDepth 100000 in
theorem scaleTai_lifted (os : Os) (started : os.Started) (H : Type) (enc : TypeId × Value → H) :
    ReturnsInHanded {} Try.checked os 5 .any (Rows.scaleTaiSpec.pre6 enc Try.prog Try.f5 Rows.scaleTaiRow.domain false) (Rows.scaleTaiSpec.post enc Try.prog Try.f5 false true false false) := by
  refine returnsInHanded_of_change_sized (C := Try.checked) law_own started (by kernel_rfl) Try.func5
    (ChangeSpec.witness6 (enc := enc) (C := Try.checked) false ⟨#[], #[.agg #[.slice none 0 0, .int .i64 0], .agg #[.int .i64 0, .int .i64 0]], []⟩ 8 (by kernel_rfl) (by kernel_rfl) (by kernel_rfl) (by kernel_rfl)) ?_
  intro W base args ds gs before hval0 hW hcnd hsz0 _
  have hval : ∀ (j : Nat) t v, Try.f5.params[j]? = some t → args[j]? = some v → Value.okWide Try.prog W .any base t v := hval0
  have hsz : (DataW.weightsEach Try.prog (Try.f5.params.toList ++ Rows.scaleTaiSpec.plain.varTypes Try.prog) (ds ++ gs)).all (· ≤ reachBytes) = true := hsz0
  have hW' := hW
  obtain ⟨p, q, hA0, hV, rfl, hfz, hnd⟩ := hW
  have hA : DataW.TrodAll enc Try.prog W 0 (fun _ => true) true Try.f5.params.toList args.toList ds p := hA0
  rw [Try.params5] at hA hval hsz
  have hsame : (Rows.scaleTaiSpec.fn H (ds ++ gs)).results = [.lit (.bool true)] ∧ (Rows.scaleTaiSpec.fn H (ds ++ gs)).args = ds ∧ (Rows.scaleTaiSpec.fn H (ds ++ gs)).vars = [] → ∀ W', Below W.heap.size W W' → Rows.scaleTaiSpec.post enc Try.prog Try.f5 false true false false W args (.bool true) W' :=
    fun h W' hb => law_post (tb := 4) hW' law_laid (by kernel_rfl) rfl Try.underlying4 h.1 h.2.1 rfl h.2.2 hb
  obtain ⟨v0, vs0, d0, ds0, p0, q0, hargs, rfl, rfl, h0, r0⟩ := trodAll_cons hA
  obtain ⟨v1, vs1, d1, ds1, p1, q1, rfl, rfl, rfl, h1, r1⟩ := trodAll_cons r0
  obtain ⟨rfl, rfl, rfl⟩ := trodAll_nil r1
  obtain rfl : args = #[v0, v1] := by cases args; simp_all
  obtain ⟨rfl, rfl⟩ := trodVars_none hV
  have hpost := hsame ⟨rfl, rfl, rfl⟩
  clear hsame hA0 hval0 hsz0
  obtain ⟨A, n, c, z, x, rfl, hn, hz, _⟩ := open_table (hval 0 30 v0 rfl rfl) h0
  obtain ⟨d, m, rfl, _, wm⟩ := open_utc (hval 1 32 v1 rfl rfl) h1
  by_cases h : n ≤ 200
  · exact (tai_in A n c x d m z W hz h (i64_wf wm)).mono fun e W' ⟨he, hb⟩ => ⟨_, he, hpost W' hb⟩
  · exact (tai_long A n c x d m W (by omega)).mono fun e W' ⟨he, hb⟩ => ⟨_, he, hpost W' hb⟩
theorem scaleTai_holds : Rows.ScaleTaiSaid :=
  OpenClaim.holds_of_wide 5 Try.f5 rfl rfl rfl rfl rfl rfl rfl ⟨rfl, rfl, rfl, rfl, rfl⟩ rfl rfl rfl rfl rfl (by kernel_rfl) Try.func5 (by kernel_rfl)
    (of_decide_eq_true (by kernel_rfl)) (by unfold Func.isWrapper; first | (rw [if_pos (by decide +kernel)]; kernel_rfl) | (rw [if_neg (by decide +kernel)]; exact ⟨rfl, rfl⟩))
    (fun os started H enc _ => scaleTai_lifted os started H enc)
end Go.Proofs.Ytklahiogcpojmaa
