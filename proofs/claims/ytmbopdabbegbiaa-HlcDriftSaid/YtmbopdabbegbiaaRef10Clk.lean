/- The reference's Clock: New, Send, Raise, Hear (written by gen/ref10clk.py). -/
import Derived.Test.YtmbopdabbegbiaaHlcHearN
import Derived.Test.YtmbopdabbegbiaaRef10Max
import Derived.Laws.Rows
import Derived.Laws.AppendOwn
set_option linter.unusedSimpArgs false
set_option linter.unusedVariables false
namespace Go.Proofs.Ytmbopdabbegbiaa
open Go.RowKit

theorem ref10_new_ok (n : Int) (w : World) (h : isMilliB n = true) : Calls Try.prog 15 #[.int .i64 n] w fun e w' => e = .returned (.tuple #[.pointer (some ⟨w.heap.size, 0, none⟩), .int .i64 0]) ∧ w' = w.alloc (.cells #[.int .i64 n, .int .i64 0, .int .i64 n] 45) := by
  have h' : 0 ≤ n ∧ n ≤ 281474976710655 := by simpa [isMilliB] using h
  have t1 : decide (n < 0) = false := by simp only [decide_eq_false_iff_not]; omega
  have t2 : decide (281474976710655 < n) = false := by simp only [decide_eq_false_iff_not]; omega
  go_enter Try.func15, Try.ntmps15
  go_wp2
  go_ret2
  exact ⟨rfl, rfl⟩
theorem milli_no {n : Int} (h : isMilliB n = false) : (decide (n < 0) = true) ∨ (decide (n < 0) = false ∧ decide (281474976710655 < n) = true) := by
  simp only [decide_eq_true_eq, decide_eq_false_iff_not]
  simp [isMilliB] at h
  omega
theorem ref10_new_no (n : Int) (w : World) (h : isMilliB n = false) : Calls Try.prog 15 #[.int .i64 n] w fun e w' => e = .returned (.tuple #[.pointer none, .int .i64 1]) ∧ w' = w := by
  rcases milli_no h with t1 | ⟨t1, t2⟩
  all_goals
    clear h
    go_enter Try.func15, Try.ntmps15
    go_wp2
    go_ret2
    exact ⟨rfl, rfl⟩
set_option maxHeartbeats 1000000 in
theorem ref10_send_arg (b : Nat) (t : Int) (w : World) (h : isMilliB t = false) : Calls Try.prog 18 #[.pointer (some ⟨b, 0, none⟩), .int .i64 t] w fun e w' => e = .returned (.tuple #[.agg #[.int .i64 0, .int .i64 0], .int .i64 1]) ∧ Below w.heap.size w w' := by
  rcases milli_no h with t1 | ⟨t1, t2⟩
  all_goals
    clear h
    go_enter Try.func18, Try.ntmps18
    go_wp2
    refine bodyPost_ret (v := .tuple #[.agg #[.int .i64 0, .int .i64 0], .int .i64 1]) (by simp [results, Try.results18, go_sem]) rfl ⟨rfl, ?_⟩
    go_light
    (repeat' (first | (with_reducible exact Below.refl _ _) | (with_reducible assumption) | (with_reducible refine Below.trans ?_ (Below.mono (by with_reducible assumption) ?_)) | (with_reducible refine Below.alloc ?_ ?_ _) | (with_reducible refine Below.setCell ?_ ?_ _) | (with_reducible refine below_drewN ?_ _) | (with_reducible refine Below.drew ?_) | go_size))
set_option maxHeartbeats 2000000 in
theorem ref10_send_full_lt (b : Nat) (m c bd t : Int) (w : World) (k : Ints3 w b m c bd) (h : isMilliB t = true) (ht : t < m) (hc : c = 65535) : Calls Try.prog 18 #[.pointer (some ⟨b, 0, none⟩), .int .i64 t] w fun e w' => e = .returned (.tuple #[.agg #[.int .i64 0, .int .i64 0], .int .i64 17]) ∧ Below w.heap.size w w' := by
  have k' := k
  obtain ⟨c0, c1, c2, f0, f1, f2, lt⟩ := k'
  have h' : 0 ≤ t ∧ t ≤ 281474976710655 := by simpa [isMilliB] using h
  have t1 : decide (t < 0) = false := by simp only [decide_eq_false_iff_not]; omega
  have t2 : decide (281474976710655 < t) = false := by simp only [decide_eq_false_iff_not]; omega
  have lb1 : b < w.heap.size + 1 := by omega
  have lb2 : b < w.heap.size + 1 + 1 := by omega
  clear h h'
  subst hc
  have e0 : (t == m) = false := by simp; omega
  have e1 : decide (t < m) = true := by simpa using ht
  have e2 : decide (m < t) = false := by simp; omega
  go_enter Try.func18, Try.ntmps18
  go_wp2
  go_region
  all_goals go_wp2
  all_goals
    refine bodyPost_ret (v := .tuple #[.agg #[.int .i64 0, .int .i64 0], .int .i64 17]) (by simp [results, Try.results18, go_sem]) rfl ⟨rfl, ?_⟩
    go_light
    (repeat' (first | (with_reducible exact Below.refl _ _) | (with_reducible assumption) | (with_reducible refine Below.trans ?_ (Below.mono (by with_reducible assumption) ?_)) | (with_reducible refine Below.alloc ?_ ?_ _) | (with_reducible refine Below.setCell ?_ ?_ _) | (with_reducible refine below_drewN ?_ _) | (with_reducible refine Below.drew ?_) | go_size))
set_option maxHeartbeats 2000000 in
theorem ref10_send_behind_lt (b : Nat) (m c bd t : Int) (w : World) (k : Ints3 w b m c bd) (h : isMilliB t = true) (ht : t < m) (hc : 0 ≤ c ∧ c < 65535) (hb : bd ≤ m) : Calls Try.prog 18 #[.pointer (some ⟨b, 0, none⟩), .int .i64 t] w fun e w' => e = .returned (.tuple #[.agg #[.int .i64 0, .int .i64 0], .int .i64 18]) ∧ Below w.heap.size w w' := by
  have k' := k
  obtain ⟨c0, c1, c2, f0, f1, f2, lt⟩ := k'
  have h' : 0 ≤ t ∧ t ≤ 281474976710655 := by simpa [isMilliB] using h
  have t1 : decide (t < 0) = false := by simp only [decide_eq_false_iff_not]; omega
  have t2 : decide (281474976710655 < t) = false := by simp only [decide_eq_false_iff_not]; omega
  have lb1 : b < w.heap.size + 1 := by omega
  have lb2 : b < w.heap.size + 1 + 1 := by omega
  clear h h'
  have cw : IntKind.i64.wrap (c + 1) = c + 1 := IntWalk.i64_in _ (by omega)
  have cg : decide (65535 < c + 1) = false := by simp; omega
  have e0 : (t == m) = false := by simp; omega
  have e1 : decide (t < m) = true := by simpa using ht
  have e2 : decide (m < t) = false := by simp; omega
  go_enter Try.func18, Try.ntmps18
  go_wp2
  go_region
  all_goals go_wp2
  all_goals go_region
  all_goals go_wp2
  all_goals
    refine bodyPost_ret (v := .tuple #[.agg #[.int .i64 0, .int .i64 0], .int .i64 18]) (by simp [results, Try.results18, go_sem]) rfl ⟨rfl, ?_⟩
    go_light
    (repeat' (first | (with_reducible exact Below.refl _ _) | (with_reducible assumption) | (with_reducible refine Below.trans ?_ (Below.mono (by with_reducible assumption) ?_)) | (with_reducible refine Below.alloc ?_ ?_ _) | (with_reducible refine Below.setCell ?_ ?_ _) | (with_reducible refine below_drewN ?_ _) | (with_reducible refine Below.drew ?_) | go_size))
set_option maxHeartbeats 2000000 in
theorem ref10_send_ok_lt (b : Nat) (m c bd t : Int) (w : World) (k : Ints3 w b m c bd) (h : isMilliB t = true) (ht : t < m) (hc : 0 ≤ c ∧ c < 65535) (hb : m < bd) : Calls Try.prog 18 #[.pointer (some ⟨b, 0, none⟩), .int .i64 t] w fun e w' => e = .returned (.tuple #[.agg #[.int .i64 m, .int .i64 (c + 1)], .int .i64 0]) ∧ Only b w w' ∧ Ints3 w' b m (c + 1) bd := by
  have k' := k
  obtain ⟨c0, c1, c2, f0, f1, f2, lt⟩ := k'
  have h' : 0 ≤ t ∧ t ≤ 281474976710655 := by simpa [isMilliB] using h
  have t1 : decide (t < 0) = false := by simp only [decide_eq_false_iff_not]; omega
  have t2 : decide (281474976710655 < t) = false := by simp only [decide_eq_false_iff_not]; omega
  have lb1 : b < w.heap.size + 1 := by omega
  have lb2 : b < w.heap.size + 1 + 1 := by omega
  clear h h'
  have cw : IntKind.i64.wrap (c + 1) = c + 1 := IntWalk.i64_in _ (by omega)
  have cg : decide (65535 < c + 1) = false := by simp; omega
  have e0 : (t == m) = false := by simp; omega
  have e1 : decide (t < m) = true := by simpa using ht
  have e2 : decide (m < t) = false := by simp; omega
  go_enter Try.func18, Try.ntmps18
  go_wp2
  go_region
  all_goals go_wp2
  all_goals go_region
  all_goals go_wp2
  all_goals
    refine bodyPost_ret (v := .tuple #[.agg #[.int .i64 m, .int .i64 (c + 1)], .int .i64 0]) (by simp [results, Try.results18, go_sem]) rfl ⟨rfl, ?_, ?_⟩
    · go_light
      (repeat' (first | (with_reducible exact Only.refl _ _) | (with_reducible assumption) | (with_reducible refine Only.alloc ?_ _) | (with_reducible refine Only.setB ?_ _) | (refine Only.setCell ?_ (Or.inr ?_) _) | (with_reducible refine Only.drewN ?_ _) | (with_reducible refine Only.drew ?_) | (with_reducible refine Only.trans ?_ (by with_reducible assumption)) | (with_reducible refine Only.trans ?_ (Only.of_below (by with_reducible assumption))) | go_size))
    · go_light
      (repeat' (first | (with_reducible assumption) | (with_reducible apply Ints3.set0) | (with_reducible apply Ints3.set1) | (with_reducible apply Ints3.set2) | (with_reducible refine Ints3.other ?_ ?_ _) | (with_reducible refine Ints3.alloc ?_ _) | (with_reducible refine Ints3.drewN ?_ _) | (with_reducible refine Ints3.drew ?_) | (with_reducible exact Ints3.new _ _ _ _ _) | go_size))
set_option maxHeartbeats 2000000 in
theorem ref10_send_full_eq (b : Nat) (m c bd t : Int) (w : World) (k : Ints3 w b m c bd) (h : isMilliB t = true) (ht : t = m) (hc : c = 65535) : Calls Try.prog 18 #[.pointer (some ⟨b, 0, none⟩), .int .i64 t] w fun e w' => e = .returned (.tuple #[.agg #[.int .i64 0, .int .i64 0], .int .i64 17]) ∧ Below w.heap.size w w' := by
  have k' := k
  obtain ⟨c0, c1, c2, f0, f1, f2, lt⟩ := k'
  have h' : 0 ≤ t ∧ t ≤ 281474976710655 := by simpa [isMilliB] using h
  have t1 : decide (t < 0) = false := by simp only [decide_eq_false_iff_not]; omega
  have t2 : decide (281474976710655 < t) = false := by simp only [decide_eq_false_iff_not]; omega
  have lb1 : b < w.heap.size + 1 := by omega
  have lb2 : b < w.heap.size + 1 + 1 := by omega
  clear h h'
  subst hc
  subst ht
  go_enter Try.func18, Try.ntmps18
  go_wp2
  go_region
  all_goals go_wp2
  all_goals
    refine bodyPost_ret (v := .tuple #[.agg #[.int .i64 0, .int .i64 0], .int .i64 17]) (by simp [results, Try.results18, go_sem]) rfl ⟨rfl, ?_⟩
    go_light
    (repeat' (first | (with_reducible exact Below.refl _ _) | (with_reducible assumption) | (with_reducible refine Below.trans ?_ (Below.mono (by with_reducible assumption) ?_)) | (with_reducible refine Below.alloc ?_ ?_ _) | (with_reducible refine Below.setCell ?_ ?_ _) | (with_reducible refine below_drewN ?_ _) | (with_reducible refine Below.drew ?_) | go_size))
set_option maxHeartbeats 2000000 in
theorem ref10_send_behind_eq (b : Nat) (m c bd t : Int) (w : World) (k : Ints3 w b m c bd) (h : isMilliB t = true) (ht : t = m) (hc : 0 ≤ c ∧ c < 65535) (hb : bd ≤ t) : Calls Try.prog 18 #[.pointer (some ⟨b, 0, none⟩), .int .i64 t] w fun e w' => e = .returned (.tuple #[.agg #[.int .i64 0, .int .i64 0], .int .i64 18]) ∧ Below w.heap.size w w' := by
  have k' := k
  obtain ⟨c0, c1, c2, f0, f1, f2, lt⟩ := k'
  have h' : 0 ≤ t ∧ t ≤ 281474976710655 := by simpa [isMilliB] using h
  have t1 : decide (t < 0) = false := by simp only [decide_eq_false_iff_not]; omega
  have t2 : decide (281474976710655 < t) = false := by simp only [decide_eq_false_iff_not]; omega
  have lb1 : b < w.heap.size + 1 := by omega
  have lb2 : b < w.heap.size + 1 + 1 := by omega
  clear h h'
  have cw : IntKind.i64.wrap (c + 1) = c + 1 := IntWalk.i64_in _ (by omega)
  have cg : decide (65535 < c + 1) = false := by simp; omega
  subst ht
  go_enter Try.func18, Try.ntmps18
  go_wp2
  go_region
  all_goals go_wp2
  all_goals go_region
  all_goals go_wp2
  all_goals
    refine bodyPost_ret (v := .tuple #[.agg #[.int .i64 0, .int .i64 0], .int .i64 18]) (by simp [results, Try.results18, go_sem]) rfl ⟨rfl, ?_⟩
    go_light
    (repeat' (first | (with_reducible exact Below.refl _ _) | (with_reducible assumption) | (with_reducible refine Below.trans ?_ (Below.mono (by with_reducible assumption) ?_)) | (with_reducible refine Below.alloc ?_ ?_ _) | (with_reducible refine Below.setCell ?_ ?_ _) | (with_reducible refine below_drewN ?_ _) | (with_reducible refine Below.drew ?_) | go_size))
set_option maxHeartbeats 2000000 in
theorem ref10_send_ok_eq (b : Nat) (m c bd t : Int) (w : World) (k : Ints3 w b m c bd) (h : isMilliB t = true) (ht : t = m) (hc : 0 ≤ c ∧ c < 65535) (hb : t < bd) : Calls Try.prog 18 #[.pointer (some ⟨b, 0, none⟩), .int .i64 t] w fun e w' => e = .returned (.tuple #[.agg #[.int .i64 t, .int .i64 (c + 1)], .int .i64 0]) ∧ Only b w w' ∧ Ints3 w' b t (c + 1) bd := by
  have k' := k
  obtain ⟨c0, c1, c2, f0, f1, f2, lt⟩ := k'
  have h' : 0 ≤ t ∧ t ≤ 281474976710655 := by simpa [isMilliB] using h
  have t1 : decide (t < 0) = false := by simp only [decide_eq_false_iff_not]; omega
  have t2 : decide (281474976710655 < t) = false := by simp only [decide_eq_false_iff_not]; omega
  have lb1 : b < w.heap.size + 1 := by omega
  have lb2 : b < w.heap.size + 1 + 1 := by omega
  clear h h'
  have cw : IntKind.i64.wrap (c + 1) = c + 1 := IntWalk.i64_in _ (by omega)
  have cg : decide (65535 < c + 1) = false := by simp; omega
  subst ht
  go_enter Try.func18, Try.ntmps18
  go_wp2
  go_region
  all_goals go_wp2
  all_goals go_region
  all_goals go_wp2
  all_goals
    refine bodyPost_ret (v := .tuple #[.agg #[.int .i64 t, .int .i64 (c + 1)], .int .i64 0]) (by simp [results, Try.results18, go_sem]) rfl ⟨rfl, ?_, ?_⟩
    · go_light
      (repeat' (first | (with_reducible exact Only.refl _ _) | (with_reducible assumption) | (with_reducible refine Only.alloc ?_ _) | (with_reducible refine Only.setB ?_ _) | (refine Only.setCell ?_ (Or.inr ?_) _) | (with_reducible refine Only.drewN ?_ _) | (with_reducible refine Only.drew ?_) | (with_reducible refine Only.trans ?_ (by with_reducible assumption)) | (with_reducible refine Only.trans ?_ (Only.of_below (by with_reducible assumption))) | go_size))
    · go_light
      (repeat' (first | (with_reducible assumption) | (with_reducible apply Ints3.set0) | (with_reducible apply Ints3.set1) | (with_reducible apply Ints3.set2) | (with_reducible refine Ints3.other ?_ ?_ _) | (with_reducible refine Ints3.alloc ?_ _) | (with_reducible refine Ints3.drewN ?_ _) | (with_reducible refine Ints3.drew ?_) | (with_reducible exact Ints3.new _ _ _ _ _) | go_size))
set_option maxHeartbeats 2000000 in
theorem ref10_send_behind2 (b : Nat) (m c bd t : Int) (w : World) (k : Ints3 w b m c bd) (h : isMilliB t = true) (ht : m < t) (hb : bd ≤ t) : Calls Try.prog 18 #[.pointer (some ⟨b, 0, none⟩), .int .i64 t] w fun e w' => e = .returned (.tuple #[.agg #[.int .i64 0, .int .i64 0], .int .i64 18]) ∧ Below w.heap.size w w' := by
  have k' := k
  obtain ⟨c0, c1, c2, f0, f1, f2, lt⟩ := k'
  have h' : 0 ≤ t ∧ t ≤ 281474976710655 := by simpa [isMilliB] using h
  have t1 : decide (t < 0) = false := by simp only [decide_eq_false_iff_not]; omega
  have t2 : decide (281474976710655 < t) = false := by simp only [decide_eq_false_iff_not]; omega
  have lb1 : b < w.heap.size + 1 := by omega
  have lb2 : b < w.heap.size + 1 + 1 := by omega
  clear h h'
  have e0 : (t == m) = false := by simp; omega
  have e1 : decide (t < m) = false := by simp; omega
  have e2 : decide (m < t) = true := by simpa using ht
  go_enter Try.func18, Try.ntmps18
  go_wp2
  go_region
  all_goals go_wp2
  all_goals go_region
  all_goals go_wp2
  all_goals
    refine bodyPost_ret (v := .tuple #[.agg #[.int .i64 0, .int .i64 0], .int .i64 18]) (by simp [results, Try.results18, go_sem]) rfl ⟨rfl, ?_⟩
    go_light
    (repeat' (first | (with_reducible exact Below.refl _ _) | (with_reducible assumption) | (with_reducible refine Below.trans ?_ (Below.mono (by with_reducible assumption) ?_)) | (with_reducible refine Below.alloc ?_ ?_ _) | (with_reducible refine Below.setCell ?_ ?_ _) | (with_reducible refine below_drewN ?_ _) | (with_reducible refine Below.drew ?_) | go_size))
set_option maxHeartbeats 2000000 in
theorem ref10_send_ok2 (b : Nat) (m c bd t : Int) (w : World) (k : Ints3 w b m c bd) (h : isMilliB t = true) (ht : m < t) (hb : t < bd) : Calls Try.prog 18 #[.pointer (some ⟨b, 0, none⟩), .int .i64 t] w fun e w' => e = .returned (.tuple #[.agg #[.int .i64 t, .int .i64 0], .int .i64 0]) ∧ Only b w w' ∧ Ints3 w' b t 0 bd := by
  have k' := k
  obtain ⟨c0, c1, c2, f0, f1, f2, lt⟩ := k'
  have h' : 0 ≤ t ∧ t ≤ 281474976710655 := by simpa [isMilliB] using h
  have t1 : decide (t < 0) = false := by simp only [decide_eq_false_iff_not]; omega
  have t2 : decide (281474976710655 < t) = false := by simp only [decide_eq_false_iff_not]; omega
  have lb1 : b < w.heap.size + 1 := by omega
  have lb2 : b < w.heap.size + 1 + 1 := by omega
  clear h h'
  have e0 : (t == m) = false := by simp; omega
  have e1 : decide (t < m) = false := by simp; omega
  have e2 : decide (m < t) = true := by simpa using ht
  go_enter Try.func18, Try.ntmps18
  go_wp2
  go_region
  all_goals go_wp2
  all_goals go_region
  all_goals go_wp2
  all_goals
    refine bodyPost_ret (v := .tuple #[.agg #[.int .i64 t, .int .i64 0], .int .i64 0]) (by simp [results, Try.results18, go_sem]) rfl ⟨rfl, ?_, ?_⟩
    · go_light
      (repeat' (first | (with_reducible exact Only.refl _ _) | (with_reducible assumption) | (with_reducible refine Only.alloc ?_ _) | (with_reducible refine Only.setB ?_ _) | (refine Only.setCell ?_ (Or.inr ?_) _) | (with_reducible refine Only.drewN ?_ _) | (with_reducible refine Only.drew ?_) | (with_reducible refine Only.trans ?_ (by with_reducible assumption)) | (with_reducible refine Only.trans ?_ (Only.of_below (by with_reducible assumption))) | go_size))
    · go_light
      (repeat' (first | (with_reducible assumption) | (with_reducible apply Ints3.set0) | (with_reducible apply Ints3.set1) | (with_reducible apply Ints3.set2) | (with_reducible refine Ints3.other ?_ ?_ _) | (with_reducible refine Ints3.alloc ?_ _) | (with_reducible refine Ints3.drewN ?_ _) | (with_reducible refine Ints3.drew ?_) | (with_reducible exact Ints3.new _ _ _ _ _) | go_size))
/-- Send: what it tells, and the stamp behind it. -/
def sdE (m c bd t : Int) : Int := if isMilliB t = false then 1 else if t ≤ m then (if c = 65535 then 17 else if bd ≤ m then 18 else 0) else (if bd ≤ t then 18 else 0)
def sdM (m c bd t : Int) : Int := if t ≤ m then m else t
def sdC (m c bd t : Int) : Int := if t ≤ m then c + 1 else 0
def SendPost (b : Nat) (m c bd t : Int) (w : World) (e : Ending) (w' : World) : Prop :=
  (sdE m c bd t ≠ 0 ∧ e = .returned (.tuple #[.agg #[.int .i64 0, .int .i64 0], .int .i64 (sdE m c bd t)]) ∧ Only b w w' ∧ Ints3 w' b m c bd) ∨
  (sdE m c bd t = 0 ∧ e = .returned (.tuple #[.agg #[.int .i64 (sdM m c bd t), .int .i64 (sdC m c bd t)], .int .i64 0]) ∧ Only b w w' ∧ Ints3 w' b (sdM m c bd t) (sdC m c bd t) bd)
theorem send_no {b : Nat} {m c bd t : Int} {w : World} (K : Ints3 w b m c bd) {r : Int} (hr : sdE m c bd t = r) (h0 : r ≠ 0) {e : Ending} {w' : World} (h : e = .returned (.tuple #[.agg #[.int .i64 0, .int .i64 0], .int .i64 r]) ∧ Below w.heap.size w w') : SendPost b m c bd t w e w' := by
  unfold SendPost
  rw [hr]
  exact .inl ⟨h0, h.1, Only.of_below h.2, K.below h.2 K.lt⟩
theorem send_yes {b : Nat} {m c bd t m' c' : Int} {w : World} (hr : sdE m c bd t = 0) (hm : sdM m c bd t = m') (hc : sdC m c bd t = c') {e : Ending} {w' : World} (h : e = .returned (.tuple #[.agg #[.int .i64 m', .int .i64 c'], .int .i64 0]) ∧ Only b w w' ∧ Ints3 w' b m' c' bd) : SendPost b m c bd t w e w' := by
  unfold SendPost
  rw [hr, hm, hc]
  exact .inr ⟨rfl, h⟩
theorem hlc_send (b : Nat) (m c bd t : Int) (w : World) (K : Ints3 w b m c bd) (hs : isStampB m c = true) : Calls Try.prog 17 #[.pointer (some ⟨b, 0, none⟩), .int .i64 t] w (SendPost b m c bd t w) := by
  obtain ⟨m0, m1, c0, c1⟩ := stamp_bd hs
  cases hn : isMilliB t
  · exact (hlc_send_arg b t w hn).mono fun e w' h => send_no K (by unfold sdE; rw [if_pos hn]) (by decide) h
  · have g0 : ¬ isMilliB t = false := by rw [hn]; decide
    by_cases ht : t ≤ m
    · by_cases hc : c = 65535
      · exact (hlc_send_full b m c bd t w K hn ht hc).mono fun e w' h => send_no K (by unfold sdE; rw [if_neg g0, if_pos ht, if_pos hc]) (by decide) h
      · by_cases hb : bd ≤ m
        · exact (hlc_send_behind1 b m c bd t w K hn ht (by omega) hb).mono fun e w' h => send_no K (by unfold sdE; rw [if_neg g0, if_pos ht, if_neg hc, if_pos hb]) (by decide) h
        · exact (hlc_send_ok1 b m c bd t w K hn ht (by omega) (by omega)).mono fun e w' h => send_yes (by unfold sdE; rw [if_neg g0, if_pos ht, if_neg hc, if_neg hb]) (by unfold sdM; rw [if_pos ht]) (by unfold sdC; rw [if_pos ht]) h
    · by_cases hb : bd ≤ t
      · exact (hlc_send_behind2 b m c bd t w K hn (by omega) hb).mono fun e w' h => send_no K (by unfold sdE; rw [if_neg g0, if_neg ht, if_pos hb]) (by decide) h
      · exact (hlc_send_ok2 b m c bd t w K hn (by omega) (by omega)).mono fun e w' h => send_yes (by unfold sdE; rw [if_neg g0, if_neg ht, if_neg hb]) (by unfold sdM; rw [if_neg ht]) (by unfold sdC; rw [if_neg ht]) h
theorem ref10_send (b : Nat) (m c bd t : Int) (w : World) (K : Ints3 w b m c bd) (hs : isStampB m c = true) : Calls Try.prog 18 #[.pointer (some ⟨b, 0, none⟩), .int .i64 t] w (SendPost b m c bd t w) := by
  obtain ⟨m0, m1, c0, c1⟩ := stamp_bd hs
  cases hn : isMilliB t
  · exact (ref10_send_arg b t w hn).mono fun e w' h => send_no K (by unfold sdE; rw [if_pos hn]) (by decide) h
  · have g0 : ¬ isMilliB t = false := by rw [hn]; decide
    by_cases ht : t ≤ m
    · rcases (show t < m ∨ t = m from by omega) with hq | hq
      · by_cases hc : c = 65535
        · exact (ref10_send_full_lt b m c bd t w K hn hq hc).mono fun e w' h => send_no K (by unfold sdE; rw [if_neg g0, if_pos ht, if_pos hc]) (by decide) h
        · by_cases hb : bd ≤ m
          · exact (ref10_send_behind_lt b m c bd t w K hn hq (by omega) (by omega)).mono fun e w' h => send_no K (by unfold sdE; rw [if_neg g0, if_pos ht, if_neg hc, if_pos hb]) (by decide) h
          · exact (ref10_send_ok_lt b m c bd t w K hn hq (by omega) (by omega)).mono fun e w' h => send_yes (by unfold sdE; rw [if_neg g0, if_pos ht, if_neg hc, if_neg hb]) (by unfold sdM; rw [if_pos ht]) (by unfold sdC; rw [if_pos ht]) h
      · by_cases hc : c = 65535
        · exact (ref10_send_full_eq b m c bd t w K hn hq hc).mono fun e w' h => send_no K (by unfold sdE; rw [if_neg g0, if_pos ht, if_pos hc]) (by decide) h
        · by_cases hb : bd ≤ m
          · exact (ref10_send_behind_eq b m c bd t w K hn hq (by omega) (by omega)).mono fun e w' h => send_no K (by unfold sdE; rw [if_neg g0, if_pos ht, if_neg hc, if_pos hb]) (by decide) h
          · exact (ref10_send_ok_eq b m c bd t w K hn hq (by omega) (by omega)).mono fun e w' h => send_yes (by unfold sdE; rw [if_neg g0, if_pos ht, if_neg hc, if_neg hb]) (by unfold sdM; rw [if_pos ht]; exact hq.symm) (by unfold sdC; rw [if_pos ht]) h
    · by_cases hb : bd ≤ t
      · exact (ref10_send_behind2 b m c bd t w K hn (by omega) hb).mono fun e w' h => send_no K (by unfold sdE; rw [if_neg g0, if_neg ht, if_pos hb]) (by decide) h
      · exact (ref10_send_ok2 b m c bd t w K hn (by omega) (by omega)).mono fun e w' h => send_yes (by unfold sdE; rw [if_neg g0, if_neg ht, if_neg hb]) (by unfold sdM; rw [if_neg ht]) (by unfold sdC; rw [if_neg ht]) h
/-- Raise. -/
def rsE (bd n : Int) : Int := if n < bd ∨ isMilliB n = false then 1 else 0
def rsB (bd n : Int) : Int := if n < bd ∨ isMilliB n = false then bd else n
theorem hlc_raise (b : Nat) (m c bd n : Int) (w : World) (K : Ints3 w b m c bd) : Calls Try.prog 21 #[.pointer (some ⟨b, 0, none⟩), .int .i64 n] w fun e w' => e = .returned (.int .i64 (rsE bd n)) ∧ Only b w w' ∧ Ints3 w' b m c (rsB bd n) := by
  unfold rsE rsB
  by_cases h : n < bd
  · rw [if_pos (.inl h), if_pos (.inl h)]
    exact (hlc_raise_low b m c bd n w K h).mono fun e w' ⟨he, hw⟩ => by subst hw; exact ⟨he, Only.refl _ _, K⟩
  · cases hn : isMilliB n
    · rw [if_pos (.inr rfl), if_pos (.inr rfl)]
      exact (hlc_raise_no b m c bd n w K hn).mono fun e w' ⟨he, hw⟩ => by subst hw; exact ⟨he, Only.refl _ _, K⟩
    · have g : ¬ (n < bd ∨ true = false) := by simp; omega
      rw [if_neg g, if_neg g]
      exact hlc_raise_ok b m c bd n w K (by omega) hn
theorem ref10_raise (b : Nat) (m c bd n : Int) (w : World) (K : Ints3 w b m c bd) (hb : 0 ≤ bd) : Calls Try.prog 22 #[.pointer (some ⟨b, 0, none⟩), .int .i64 n] w fun e w' => e = .returned (.int .i64 (rsE bd n)) ∧ Only b w w' ∧ Ints3 w' b m c (rsB bd n) := by
  have K' := K
  obtain ⟨c0, c1, c2, f0, f1, f2, lt⟩ := K'
  unfold rsE rsB
  by_cases h : n < bd
  · have t1 : decide (n < bd) = true := by simpa using h
    rw [if_pos (.inl h), if_pos (.inl h)]
    go_enter Try.func22, Try.ntmps22
    go_wp2
    go_ret
    exact ⟨rfl, Only.refl _ _, K⟩
  · have t1 : decide (n < bd) = false := by simpa using h
    cases hn : isMilliB n
    · have t2 : decide (281474976710655 < n) = true := by simp [isMilliB] at hn; simp only [decide_eq_true_eq]; omega
      rw [if_pos (.inr rfl), if_pos (.inr rfl)]
      go_enter Try.func22, Try.ntmps22
      go_wp2
      go_ret
      exact ⟨rfl, Only.refl _ _, K⟩
    · have t2 : decide (281474976710655 < n) = false := by simp [isMilliB] at hn; simp only [decide_eq_false_iff_not]; omega
      have g : ¬ (n < bd ∨ true = false) := by simp; omega
      rw [if_neg g, if_neg g]
      go_enter Try.func22, Try.ntmps22
      go_wp2
      go_ret
      refine ⟨rfl, ?_, ?_⟩
      · go_light
        (repeat' (first | (with_reducible exact Only.refl _ _) | (with_reducible assumption) | (with_reducible refine Only.alloc ?_ _) | (with_reducible refine Only.setB ?_ _) | (refine Only.setCell ?_ (Or.inr ?_) _) | (with_reducible refine Only.drewN ?_ _) | (with_reducible refine Only.drew ?_) | (with_reducible refine Only.trans ?_ (by with_reducible assumption)) | (with_reducible refine Only.trans ?_ (Only.of_below (by with_reducible assumption))) | go_size))
      · go_light
        (repeat' (first | (with_reducible assumption) | (with_reducible apply Ints3.set0) | (with_reducible apply Ints3.set1) | (with_reducible apply Ints3.set2) | (with_reducible refine Ints3.other ?_ ?_ _) | (with_reducible refine Ints3.alloc ?_ _) | (with_reducible refine Ints3.drewN ?_ _) | (with_reducible refine Ints3.drew ?_) | (with_reducible exact Ints3.new _ _ _ _ _) | go_size))
end Go.Proofs.Ytmbopdabbegbiaa
