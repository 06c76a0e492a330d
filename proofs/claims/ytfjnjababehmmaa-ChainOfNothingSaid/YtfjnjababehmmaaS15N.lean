/- Stage 15: ChainOfNothing: a nil chain has no version: for every version and stamp. -/
import Derived.Test.YtfjnjababehmmaaKnown15
import Derived.Test.YtfjnjababehmmaaStampArg
import Derived.Test.YtfjnjababehmmaaArgVers
set_option linter.unusedSimpArgs false
set_option linter.unusedVariables false
namespace Go.Proofs.Ytfjnjababehmmaa
open Go.ChangeShapes Go.WideShapes Go.ChangeAt Go.RowKit Go.Joins Go.Deep

set_option maxRecDepth 100000 in
set_option maxHeartbeats 8000000 in
theorem chainOfNothing_any (m : Mv) (tm tc : Int) (w : World) :
    Calls Try.prog 7 #[m.val, .agg #[.int .i64 tm, .int .i64 tc]] w fun e w' => e = .returned (.bool true) ∧ Below w.heap.size w w' := by
  obtain ⟨⟨ml, ct, vo, val, gn, tt⟩, A, cc⟩ := m
  have HB0 : Below w.heap.size w ((w.alloc (verO ml ct vo A val.length cc gn tt)).alloc (.cells #[.int .i64 tm, .int .i64 tc] 25)) := by (repeat' (first | (with_reducible exact Below.refl _ _) | (with_reducible assumption) | (with_reducible refine Below.trans ?_ (Below.mono (by with_reducible assumption) ?_)) | (with_reducible refine Below.alloc ?_ ?_ _) | (with_reducible refine Below.setCell ?_ ?_ _) | (with_reducible refine below_drewN ?_ _) | (with_reducible refine Below.drew ?_) | go_size))
  by_cases hlong : 8000 < val.length
  · have t1 : decide ((8000 : Int) < (val.length : Int)) = true := by simp; omega
    clear hlong
    go_enter Try.func7, Try.ntmps7
    go_wp2
    go_ret
    go_light
    exact ⟨rfl, HB0⟩
  · have t1 : decide ((8000 : Int) < (val.length : Int)) = false := by simp; omega
    have HB := Lib.hid HB0
    clear hlong HB0
    have arm1 := Lib.hid (nil_at tm tc ((w.alloc (verO ml ct vo A val.length cc gn tt)).alloc (.cells #[.int .i64 tm, .int .i64 tc] 25)))
    go_enter Try.func7, Try.ntmps7
    go_wp2_with fail
    refine arm1.out.mono ?_; rintro e w1 ⟨rfl, hb1⟩
    have q0 : w1.cell? ⟨w.heap.size, 0, none⟩ = some (.int .i64 ml) := (hb1.cell (p := ⟨w.heap.size, 0, none⟩) (by simp; omega)).trans (by simp [World.cell?_alloc_past])
    have q1 : w1.cell? ⟨w.heap.size, 1, none⟩ = some (.int .i64 ct) := (hb1.cell (p := ⟨w.heap.size, 1, none⟩) (by simp; omega)).trans (by simp [World.cell?_alloc_past])
    have q2 : w1.cell? ⟨w.heap.size, 2, none⟩ = some (.int .i64 vo) := (hb1.cell (p := ⟨w.heap.size, 2, none⟩) (by simp; omega)).trans (by simp [World.cell?_alloc_past])
    have q3 : w1.cell? ⟨w.heap.size, 3, none⟩ = some (.slice A val.length cc) := (hb1.cell (p := ⟨w.heap.size, 3, none⟩) (by simp; omega)).trans (by simp [World.cell?_alloc_past])
    have q4 : w1.cell? ⟨w.heap.size, 4, none⟩ = some (.bool gn) := (hb1.cell (p := ⟨w.heap.size, 4, none⟩) (by simp; omega)).trans (by simp [World.cell?_alloc_past])
    have q5 : w1.cell? ⟨w.heap.size, 5, none⟩ = some (.int .i64 tt) := (hb1.cell (p := ⟨w.heap.size, 5, none⟩) (by simp; omega)).trans (by simp [World.cell?_alloc_past])
    have s0 : w1.cell? ⟨w.heap.size + 1, 0, none⟩ = some (.int .i64 tm) := (hb1.cell (p := ⟨w.heap.size + 1, 0, none⟩) (by simp)).trans (by simp)
    have s1 : w1.cell? ⟨w.heap.size + 1, 1, none⟩ = some (.int .i64 tc) := (hb1.cell (p := ⟨w.heap.size + 1, 1, none⟩) (by simp)).trans (by simp)
    have HB1 := Lib.hid (HB.out.trans (hb1.mono HB.out.size))
    have lz : w.heap.size + 1 < w1.heap.size := by have := hb1.size; simp at this; omega
    clear hb1 arm1
    have hba : Below w1.heap.size w1 (w1.alloc (verO 0 0 0 none 0 0 false 0)) := (Below.refl _ _).alloc (Nat.le_refl _) _
    have l0 : w.heap.size < w1.heap.size := by omega
    go_wp2_with fail
    refine (nil_get tm tc _).mono ?_; rintro e w2 ⟨rfl, hb2⟩
    have hb2' := hba.trans (hb2.mono hba.size)
    have k0 := (hb2'.cell (p := ⟨w.heap.size, 0, none⟩) l0).trans q0
    have k1 := (hb2'.cell (p := ⟨w.heap.size, 1, none⟩) l0).trans q1
    have k2 := (hb2'.cell (p := ⟨w.heap.size, 2, none⟩) l0).trans q2
    have k3 := (hb2'.cell (p := ⟨w.heap.size, 3, none⟩) l0).trans q3
    have k4 := (hb2'.cell (p := ⟨w.heap.size, 4, none⟩) l0).trans q4
    have k5 := (hb2'.cell (p := ⟨w.heap.size, 5, none⟩) l0).trans q5
    have u0 := (hb2'.cell (p := ⟨w.heap.size + 1, 0, none⟩) lz).trans s0
    have u1 := (hb2'.cell (p := ⟨w.heap.size + 1, 1, none⟩) lz).trans s1
    have HB2 := Lib.hid (HB1.out.trans (hb2'.mono HB1.out.size))
    have lz2 : w.heap.size + 1 < w2.heap.size := Nat.lt_of_lt_of_le lz hb2'.size
    clear hb2 hb2' hba q0 q1 q2 q3 q4 q5 s0 s1
    go_wp2_with fail
    refine (nil_put _ ⟨⟨ml, ct, vo, val, gn, tt⟩, A, cc⟩ rfl _).mono ?_; rintro e w3 ⟨rfl, hb3⟩
    have v0 := (hb3.cell (p := ⟨w.heap.size + 1, 0, none⟩) lz2).trans u0
    have v1 := (hb3.cell (p := ⟨w.heap.size + 1, 1, none⟩) lz2).trans u1
    have HB3 := Lib.hid (HB2.out.trans (hb3.mono HB2.out.size))
    clear hb3 k0 k1 k2 k3 k4 k5 u0 u1
    go_wp2_with fail
    refine (nil_trim tm tc _).mono ?_; rintro e w4 ⟨rfl, hb4⟩
    have HB4 := Lib.hid (HB3.out.trans (hb4.mono HB3.out.size))
    clear hb4 v0 v1
    go_wp2_with fail
    refine (nil_all _).mono ?_; rintro e w5 ⟨rfl, rfl⟩
    go_wp2_with fail
    refine (known15 _).mono ?_; rintro e w6 ⟨rfl, hb6⟩
    have HB6 := Lib.hid (HB4.out.trans (hb6.mono HB4.out.size))
    clear hb6
    go_wp2
    go_ret
    exact ⟨rfl, HB6.out⟩
set_option maxRecDepth 100000 in
theorem chainOfNothing_lifted (os : Os) (started : os.Started) (H : Type) (enc : TypeId × Value → H) :
    ReturnsInHanded {} Try.checked os 7 .any (Rows.chainOfNothingSpec.pre6 enc Try.prog Try.f7 Rows.chainOfNothingRow.domain false) (Rows.chainOfNothingSpec.post enc Try.prog Try.f7 false true false false) := by
  refine returnsInHanded_of_change_sized (C := Try.checked) law_own started (by kernel_rfl) Try.func7
    (ChangeSpec.witness6 (enc := enc) (C := Try.checked) false ⟨#[], #[verV 0 0 0 none 0 0 false 0, .agg #[.int .i64 0, .int .i64 0]], []⟩ 8 (by kernel_rfl) (by kernel_rfl) (by kernel_rfl) (by kernel_rfl)) ?_
  intro W base args ds gs before hval0 hW hcnd hsz0 _
  have hval : ∀ (j : Nat) t v, Try.f7.params[j]? = some t → args[j]? = some v → Value.okWide Try.prog W .any base t v := hval0
  have hsz : (DataW.weightsEach Try.prog (Try.f7.params.toList ++ Rows.chainOfNothingSpec.plain.varTypes Try.prog) (ds ++ gs)).all (· ≤ reachBytes) = true := hsz0
  have hW' := hW
  obtain ⟨p, q, hA0, hV, rfl, hfz, hnd⟩ := hW
  have hA : DataW.TrodAll enc Try.prog W 0 (fun _ => true) true Try.f7.params.toList args.toList ds p := hA0
  rw [Try.params7] at hA hval hsz
  have hsame : (Rows.chainOfNothingSpec.fn H (ds ++ gs)).results = [.lit (.bool true)] ∧ (Rows.chainOfNothingSpec.fn H (ds ++ gs)).args = ds ∧ (Rows.chainOfNothingSpec.fn H (ds ++ gs)).vars = [] → ∀ W', Below W.heap.size W W' → Rows.chainOfNothingSpec.post enc Try.prog Try.f7 false true false false W args (.bool true) W' :=
    fun h W' hb => law_post (tb := 4) hW' law_laid (by kernel_rfl) rfl Try.underlying4 h.1 h.2.1 rfl h.2.2 hb
  obtain ⟨v0, vs0, d0, ds0, p0, q0, hargs, rfl, rfl, h0, r0⟩ := trodAll_cons hA
  obtain ⟨v1, vs1, d1, ds1, p1, q1, rfl, rfl, rfl, h1, r1⟩ := trodAll_cons r0
  obtain ⟨rfl, rfl, rfl⟩ := trodAll_nil r1
  obtain rfl : args = #[v0, v1] := by cases args; simp_all
  obtain ⟨rfl, rfl⟩ := trodVars_none hV
  have hpost := hsame ⟨rfl, rfl, rfl⟩
  clear hsame hA0 hval0 hsz0
  obtain ⟨m, rfl, _, _⟩ := open_version (hval 0 28 v0 rfl rfl) h0
  obtain ⟨tm, tc, rfl, _, _⟩ := open_stamp (hval 1 25 v1 rfl rfl) h1
  exact (chainOfNothing_any m tm tc W).mono fun e W' ⟨he, hb⟩ => ⟨_, he, hpost W' hb⟩
theorem chainOfNothing_holds : Rows.ChainOfNothingSaid :=
  OpenClaim.holds_of_wide 7 Try.f7 rfl rfl rfl rfl rfl rfl rfl ⟨rfl, rfl, rfl, rfl, rfl⟩ rfl rfl rfl rfl rfl (by kernel_rfl) Try.func7 (by kernel_rfl)
    (of_decide_eq_true (by kernel_rfl)) (by unfold Func.isWrapper; first | (rw [if_pos (by decide +kernel)]; kernel_rfl) | (rw [if_neg (by decide +kernel)]; exact ⟨rfl, rfl⟩))
    (fun os started H enc _ => chainOfNothing_lifted os started H enc)
end Go.Proofs.Ytfjnjababehmmaa
