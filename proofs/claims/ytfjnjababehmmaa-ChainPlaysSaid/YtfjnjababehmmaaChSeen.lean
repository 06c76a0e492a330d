/- chain.Seen, the reference's Seen, Order. -/
import Derived.Test.YtfjnjababehmmaaChClone
import Derived.Test.YtfjnjababehmmaaChCmp
set_option linter.unusedSimpArgs false
set_option linter.unusedVariables false
namespace Go.Proofs.Ytfjnjababehmmaa
open Go.RowKit

def seenB (v : Vs) (tm tc : Int) : Bool := decide (cmp2 v.ml v.ct tm tc ≤ 0) && (!v.gone && (decide (v.tt = 0) || decide (tm - v.ml < v.tt)))
theorem cmp2_ml {m c p q : Int} (h : cmp2 m c p q ≤ 0) : m ≤ p := by
  unfold cmp2 or2 cmp1 at h
  (repeat' split at h) <;> omega
set_option maxHeartbeats 4000000 in
theorem ch_seen (ml ct vo : Int) (A : Option Addr) (n c : Nat) (gn : Bool) (tt tm tc : Int) (val : List Int) (w : World) (m0 : 0 ≤ ml) (t0 : 0 ≤ tt) (m1 : ml ≤ 281474976710655) (t1 : tt ≤ 281474976710655) (hw : (Lit.int .i64 tm).wf = true) :
    Calls Try.prog 32 #[verV ml ct vo A n c gn tt, .agg #[.int .i64 tm, .int .i64 tc]] w fun e w' => e = .returned (.bool (seenB ⟨ml, ct, vo, val, gn, tt⟩ tm tc)) ∧ Below w.heap.size w w' := by
  have hb : -9223372036854775808 ≤ tm ∧ tm ≤ 9223372036854775807 := by
    simp [Lit.wf, IntKind.min, IntKind.max, IntKind.signed, IntKind.bits] at hw
    omega
  have hud : undef = Value.tuple #[] := rfl
  have HC0 := fun W => hlc_compare ml ct tm tc W
  have hcm : cmp2 ml ct tm tc ≤ 0 → ml ≤ tm := cmp2_ml
  have HE : Hid (seenB ⟨ml, ct, vo, val, gn, tt⟩ tm tc = (decide (cmp2 ml ct tm tc ≤ 0) && (!gn && (decide (tt = 0) || decide (tm - ml < tt))))) := rfl
  generalize cmp2 ml ct tm tc = q at *
  have HC := Lib.hid HC0
  clear HC0 hw
  by_cases hq : q ≤ 0
  · have t2 : decide (0 < q) = false := by simp only [decide_eq_false_iff_not]; omega
    have hle := hcm hq
    cases gn with
    | true =>
      rw [HE.out]
      clear hcm
      go_enter Try.func32, Try.ntmps32
      go_wp2_with (go_at_call 46; refine (HC.out _).mono ?_; rintro e w1 ⟨rfl, hb1⟩; obtain ⟨hc1, hf1⟩ := bcell hb1; (try simp only [World.size_alloc] at hc1 hf1); have q3 : w1.cell? ⟨w.heap.size, 4, none⟩ = some (.bool true) := (hc1 _ _ (by omega)).trans (by simp); clear hc1 hf1)
      go_ret
      go_light
      exact ⟨by simp, by (repeat' (first | (with_reducible exact Below.refl _ _) | (with_reducible assumption) | (with_reducible refine Below.trans ?_ (Below.mono (by with_reducible assumption) ?_)) | (with_reducible refine Below.alloc ?_ ?_ _) | (with_reducible refine Below.setCell ?_ ?_ _) | (with_reducible refine below_drewN ?_ _) | (with_reducible refine Below.drew ?_) | go_size))⟩
    | false =>
      have e1 : IntKind.u64.wrap tm = tm := (by rw [IntKind.wrap_u64]; omega)
      have e2 : IntKind.u64.wrap ml = ml := (by rw [IntKind.wrap_u64]; omega)
      have e3 : IntKind.u64.wrap (tm - ml) = tm - ml := (by rw [IntKind.wrap_u64]; omega)
      have e4 : IntKind.u64.wrap tt = tt := (by rw [IntKind.wrap_u64]; omega)
      by_cases h0 : tt = 0
      · subst h0
        have HEE : Hid (seenB ⟨ml, ct, vo, val, false, 0⟩ tm tc = true) := Lib.hid (by rw [HE.out]; simp [hq])
        rw [HEE.out]
        clear hcm HE hq
        go_enter Try.func32, Try.ntmps32
        go_wp2_with (go_at_call 46; refine (HC.out _).mono ?_; rintro e w1 ⟨rfl, hb1⟩; obtain ⟨hc1, hf1⟩ := bcell hb1; (try simp only [World.size_alloc] at hc1 hf1); have q3 : w1.cell? ⟨w.heap.size, 4, none⟩ = some (.bool false) := (hc1 _ _ (by omega)).trans (by simp); have q0 : w1.cell? ⟨w.heap.size, 0, none⟩ = some (.int .i64 ml) := (hc1 _ _ (by omega)).trans (by simp); have q5 : w1.cell? ⟨w.heap.size, 5, none⟩ = some (.int .i64 0) := (hc1 _ _ (by omega)).trans (by simp); have s0 : w1.cell? ⟨w.heap.size + 1, 0, none⟩ = some (.int .i64 tm) := (hc1 _ _ (by omega)).trans (by simp); clear hc1 hf1)
        go_ret
        go_light
        exact ⟨by simp, by (repeat' (first | (with_reducible exact Below.refl _ _) | (with_reducible assumption) | (with_reducible refine Below.trans ?_ (Below.mono (by with_reducible assumption) ?_)) | (with_reducible refine Below.alloc ?_ ?_ _) | (with_reducible refine Below.setCell ?_ ?_ _) | (with_reducible refine below_drewN ?_ _) | (with_reducible refine Below.drew ?_) | go_size))⟩
      · have h0a : (tt == 0) = false := by simpa using h0
        have h0b : decide (0 < tt) = true := by simp; omega
        have HEE : Hid (seenB ⟨ml, ct, vo, val, false, tt⟩ tm tc = decide (tm - ml < tt)) := Lib.hid (by rw [HE.out]; simp [hq, h0])
        rw [HEE.out]
        clear hcm HE hq h0
        go_enter Try.func32, Try.ntmps32
        go_wp2_with (go_at_call 46; refine (HC.out _).mono ?_; rintro e w1 ⟨rfl, hb1⟩; obtain ⟨hc1, hf1⟩ := bcell hb1; (try simp only [World.size_alloc] at hc1 hf1); have q3 : w1.cell? ⟨w.heap.size, 4, none⟩ = some (.bool false) := (hc1 _ _ (by omega)).trans (by simp); have q0 : w1.cell? ⟨w.heap.size, 0, none⟩ = some (.int .i64 ml) := (hc1 _ _ (by omega)).trans (by simp); have q5 : w1.cell? ⟨w.heap.size, 5, none⟩ = some (.int .i64 tt) := (hc1 _ _ (by omega)).trans (by simp); have s0 : w1.cell? ⟨w.heap.size + 1, 0, none⟩ = some (.int .i64 tm) := (hc1 _ _ (by omega)).trans (by simp); clear hc1 hf1)
        go_ret
        go_light
        exact ⟨by simp, by (repeat' (first | (with_reducible exact Below.refl _ _) | (with_reducible assumption) | (with_reducible refine Below.trans ?_ (Below.mono (by with_reducible assumption) ?_)) | (with_reducible refine Below.alloc ?_ ?_ _) | (with_reducible refine Below.setCell ?_ ?_ _) | (with_reducible refine below_drewN ?_ _) | (with_reducible refine Below.drew ?_) | go_size))⟩
  · have t2 : decide (0 < q) = true := by simp only [decide_eq_true_eq]; omega
    have HEE : Hid (seenB ⟨ml, ct, vo, val, gn, tt⟩ tm tc = false) := Lib.hid (by rw [HE.out]; simp [hq])
    rw [HEE.out]
    clear hcm HE hq
    go_enter Try.func32, Try.ntmps32
    go_wp2_with (go_at_call 46; refine (HC.out _).mono ?_; rintro e w1 ⟨rfl, hb1⟩)
    go_ret
    go_light
    exact ⟨rfl, by (repeat' (first | (with_reducible exact Below.refl _ _) | (with_reducible assumption) | (with_reducible refine Below.trans ?_ (Below.mono (by with_reducible assumption) ?_)) | (with_reducible refine Below.alloc ?_ ?_ _) | (with_reducible refine Below.setCell ?_ ?_ _) | (with_reducible refine below_drewN ?_ _) | (with_reducible refine Below.drew ?_) | go_size))⟩
end Go.Proofs.Ytfjnjababehmmaa
