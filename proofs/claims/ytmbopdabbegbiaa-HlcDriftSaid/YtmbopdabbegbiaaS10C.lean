/- Stage 10: HlcOfNothing, HlcStill. -/
import Derived.Test.YtmbopdabbegbiaaS10A
set_option linter.unusedSimpArgs false
set_option linter.unusedVariables false
namespace Go.Proofs.Ytmbopdabbegbiaa
open Go.RowKit

theorem hlc_send_nil (n : Int) (w : World) : Calls Try.prog 17 #[.pointer none, .int .i64 n] w fun e w' => e = .returned (.tuple #[.agg #[.int .i64 0, .int .i64 0], .int .i64 1]) ∧ Below w.heap.size w w' := by
  go_enter Try.func17, Try.ntmps17
  go_wp2
  refine bodyPost_ret (v := .tuple #[.agg #[.int .i64 0, .int .i64 0], .int .i64 1]) (by simp [results, Try.results17, go_sem]) rfl ⟨rfl, ?_⟩
  go_light
  (repeat' (first | (with_reducible exact Below.refl _ _) | (with_reducible assumption) | (with_reducible refine Below.trans ?_ (Below.mono (by with_reducible assumption) ?_)) | (with_reducible refine Below.alloc ?_ ?_ _) | (with_reducible refine Below.setCell ?_ ?_ _) | (with_reducible refine below_drewN ?_ _) | (with_reducible refine Below.drew ?_) | go_size))
theorem hlc_hear_nil (n : Int) (v : Value) (w : World) : Calls Try.prog 19 #[.pointer none, .int .i64 n, v] w fun e w' => e = .returned (.int .i64 1) ∧ w = w' := by
  go_enter Try.func19, Try.ntmps19
  go_wp2
  go_ret
  exact ⟨rfl, rfl⟩
theorem hlc_raise_nil (n : Int) (w : World) : Calls Try.prog 21 #[.pointer none, .int .i64 n] w fun e w' => e = .returned (.int .i64 1) ∧ w = w' := by
  go_enter Try.func21, Try.ntmps21
  go_wp2
  go_ret
  exact ⟨rfl, rfl⟩
theorem hlc_last_nil (w : World) : Calls Try.prog 23 #[.pointer none] w fun e w' => e = .returned (.agg #[.int .i64 0, .int .i64 0]) ∧ Below w.heap.size w w' := by
  go_enter Try.func23, Try.ntmps23
  go_wp2
  refine bodyPost_ret (v := .agg #[.int .i64 0, .int .i64 0]) (by simp [results, Try.results23, go_sem]) rfl ⟨rfl, ?_⟩
  go_light
  (repeat' (first | (with_reducible exact Below.refl _ _) | (with_reducible assumption) | (with_reducible refine Below.trans ?_ (Below.mono (by with_reducible assumption) ?_)) | (with_reducible refine Below.alloc ?_ ?_ _) | (with_reducible refine Below.setCell ?_ ?_ _) | (with_reducible refine below_drewN ?_ _) | (with_reducible refine Below.drew ?_) | go_size))
theorem hlc_bound_nil (w : World) : Calls Try.prog 24 #[.pointer none] w fun e w' => e = .returned (.int .i64 0) ∧ w = w' := by
  go_enter Try.func24, Try.ntmps24
  go_wp2
  go_ret
  exact ⟨rfl, rfl⟩
set_option maxHeartbeats 1000000 in
theorem hlcOfNothing_all (n m c : Int) (w : World) : Calls Try.prog 11 #[.int .i64 n, .agg #[.int .i64 m, .int .i64 c]] w fun e w' => e = .returned (.bool true) ∧ Below w.heap.size w w' := by
  go_enter Try.func11, Try.ntmps11
  go_wp2_with (first | (go_at_call 17; refine (hlc_send_nil _ _).mono ?_; rintro e w1 ⟨rfl, hb1⟩; obtain ⟨hc1, hf1⟩ := bcell hb1; have hz1 := hb1.size; (try simp only [World.size_alloc, World.size_setCell, World.heap_drewN] at hb1 hc1 hf1 hz1); (try have ha01 : w.heap.size < w1.heap.size := by omega); (try have ha11 : w.heap.size + 1 < w1.heap.size := by omega); (try have ha21 : w.heap.size + 2 < w1.heap.size := by omega); (try have hal1 : w.heap.size ≤ w1.heap.size := by omega); (try have ham1 : w.heap.size < w1.heap.size + 2 := by omega)) | (go_at_call 19; refine (hlc_hear_nil _ _ _).mono ?_; rintro e w' ⟨rfl, rfl⟩) | (go_at_call 21; refine (hlc_raise_nil _ _).mono ?_; rintro e w' ⟨rfl, rfl⟩) | (go_at_call 23; refine (hlc_last_nil _).mono ?_; rintro e w2 ⟨rfl, hb2⟩; obtain ⟨hc2, hf2⟩ := bcell hb2; have hz2 := hb2.size; (try simp only [World.size_alloc, World.size_setCell, World.heap_drewN] at hb2 hc2 hf2 hz2); (try have ha02 : w.heap.size < w2.heap.size := by omega); (try have ha12 : w.heap.size + 1 < w2.heap.size := by omega); (try have ha22 : w.heap.size + 2 < w2.heap.size := by omega); (try have hal2 : w.heap.size ≤ w2.heap.size := by omega); (try have ham2 : w.heap.size < w2.heap.size + 2 := by omega); (try have hb02 : w1.heap.size < w2.heap.size := by omega); (try have hb12 : w1.heap.size + 1 < w2.heap.size := by omega); (try have hb22 : w1.heap.size + 2 < w2.heap.size := by omega); (try have hbl2 : w1.heap.size ≤ w2.heap.size := by omega); (try have hbm2 : w1.heap.size < w2.heap.size + 2 := by omega)) | (go_at_call 24; refine (hlc_bound_nil _).mono ?_; rintro e w' ⟨rfl, rfl⟩) | (go_at_call 16; refine (known10 _).mono ?_; rintro e w3 ⟨rfl, hb3⟩; obtain ⟨hc3, hf3⟩ := bcell hb3; have hz3 := hb3.size; (try simp only [World.size_alloc, World.size_setCell, World.heap_drewN] at hb3 hc3 hf3 hz3); (try have ha03 : w.heap.size < w3.heap.size := by omega); (try have ha13 : w.heap.size + 1 < w3.heap.size := by omega); (try have ha23 : w.heap.size + 2 < w3.heap.size := by omega); (try have hal3 : w.heap.size ≤ w3.heap.size := by omega); (try have ham3 : w.heap.size < w3.heap.size + 2 := by omega)))
  go_ret
  go_light
  exact ⟨rfl, by (repeat' (first | (with_reducible exact Below.refl _ _) | (with_reducible assumption) | (with_reducible refine Below.trans ?_ (Below.mono (by with_reducible assumption) ?_)) | (with_reducible refine Below.alloc ?_ ?_ _) | (with_reducible refine Below.setCell ?_ ?_ _) | (with_reducible refine below_drewN ?_ _) | (with_reducible refine Below.drew ?_) | go_size))⟩
theorem hlc_hear_arg (b : Nat) (t : Int) (v : Value) (w : World) (ht : isMilliB t = false) : Calls Try.prog 19 #[.pointer (some ⟨b, 0, none⟩), .int .i64 t, v] w fun e w' => e = .returned (.int .i64 1) ∧ w = w' := by
  go_enter Try.func19, Try.ntmps19
  go_wp2_with (go_at_call 34; refine (hlc_isMilli _ _).mono ?_; rintro e w' ⟨rfl, rfl⟩)
  go_ret
  exact ⟨rfl, rfl⟩
set_option maxHeartbeats 1000000 in
theorem hlc_hear1_bad (b B : Nat) (t p q : Int) (w : World) (ht : isMilliB t = true) (hs : isStampB p q = false) (h0 : w.cell? ⟨B, 0, none⟩ = some (.int .i64 p)) (h1 : w.cell? ⟨B, 1, none⟩ = some (.int .i64 q)) :
    Calls Try.prog 19 #[.pointer (some ⟨b, 0, none⟩), .int .i64 t, .slice (some ⟨B, 0, none⟩) 1 1] w fun e w' => e = .returned (.int .i64 1) ∧ Below w.heap.size w w' := by
  go_enter Try.func19, Try.ntmps19
  go_wp2_with (go_at_call 34; refine (hlc_isMilli _ _).mono ?_; rintro e w' ⟨rfl, rfl⟩)
  refine wp_loop_rounds 2 ?_
  rw [rounds_succ]
  go_wp2_with (go_at_call 35; refine (hlc_isStamp p q _).mono ?_; rintro e w1 ⟨rfl, hb1⟩; obtain ⟨hc1, hf1⟩ := bcell hb1; have hz1 := hb1.size; (try simp only [World.size_alloc, World.size_setCell, World.heap_drewN] at hb1 hc1 hf1 hz1); (try have ha01 : w.heap.size < w1.heap.size := by omega); (try have ha11 : w.heap.size + 1 < w1.heap.size := by omega); (try have ha21 : w.heap.size + 2 < w1.heap.size := by omega); (try have hal1 : w.heap.size ≤ w1.heap.size := by omega); (try have ham1 : w.heap.size < w1.heap.size + 2 := by omega))
  go_ret
  go_light
  exact ⟨rfl, by (repeat' (first | (with_reducible exact Below.refl _ _) | (with_reducible assumption) | (with_reducible refine Below.trans ?_ (Below.mono (by with_reducible assumption) ?_)) | (with_reducible refine Below.alloc ?_ ?_ _) | (with_reducible refine Below.setCell ?_ ?_ _) | (with_reducible refine below_drewN ?_ _) | (with_reducible refine Below.drew ?_) | go_size))⟩
set_option maxHeartbeats 1000000 in
theorem hlc_hear1_far (b B : Nat) (t p q : Int) (w : World) (ht : isMilliB t = true) (hs : isStampB p q = true) (hd : t + 60000 < p) (h0 : w.cell? ⟨B, 0, none⟩ = some (.int .i64 p)) (h1 : w.cell? ⟨B, 1, none⟩ = some (.int .i64 q)) (hB : B < w.heap.size) :
    Calls Try.prog 19 #[.pointer (some ⟨b, 0, none⟩), .int .i64 t, .slice (some ⟨B, 0, none⟩) 1 1] w fun e w' => e = .returned (.int .i64 16) ∧ Below w.heap.size w w' := by
  have tb : 0 ≤ t ∧ t ≤ 281474976710655 := by simpa [isMilliB] using ht
  have n0 : w.heap.size ≠ B := by omega
  have l1 : B < w.heap.size + 1 := by omega
  have l2 : B < w.heap.size + 1 + 1 := by omega
  go_enter Try.func19, Try.ntmps19
  go_wp2_with (go_at_call 34; refine (hlc_isMilli _ _).mono ?_; rintro e w' ⟨rfl, rfl⟩)
  refine wp_loop_rounds 2 ?_
  rw [rounds_succ]
  go_wp2_with fail
  refine (hlc_isStamp p q _).mono ?_; rintro e w1 ⟨rfl, hb1⟩; obtain ⟨hc1, hf1⟩ := bcell hb1; have hz1 := hb1.size; (try simp only [World.size_alloc, World.size_setCell, World.heap_drewN] at hb1 hc1 hf1 hz1); (try have ha01 : w.heap.size < w1.heap.size := by omega); (try have ha11 : w.heap.size + 1 < w1.heap.size := by omega); (try have ha21 : w.heap.size + 2 < w1.heap.size := by omega); (try have hal1 : w.heap.size ≤ w1.heap.size := by omega); (try have ham1 : w.heap.size < w1.heap.size + 2 := by omega)
  have l4 : B < w1.heap.size := by omega
  have l6 : B < w1.heap.size + 1 := by omega
  have l9 : w1.heap.size ≠ B := by omega
  rw [hs]
  go_wp2_with fail
  rw [rounds_succ]
  go_wp2
  refine wp_loop_rounds 2 ?_
  rw [rounds_succ]
  go_wp2
  go_ret
  go_light
  exact ⟨rfl, by (repeat' (first | (with_reducible exact Below.refl _ _) | (with_reducible assumption) | (with_reducible refine Below.trans ?_ (Below.mono (by with_reducible assumption) ?_)) | (with_reducible refine Below.alloc ?_ ?_ _) | (with_reducible refine Below.setCell ?_ ?_ _) | (with_reducible refine below_drewN ?_ _) | (with_reducible refine Below.drew ?_) | go_size))⟩
end Go.Proofs.Ytmbopdabbegbiaa
