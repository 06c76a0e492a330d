/- hlc.Max of two stamps (cut out of XHlcHear). -/
import Derived.Test.YtcmoglbmngmgnaaDoorHlcCmp
import Derived.Test.YtcmoglbmngmgnaaDoorInts2
set_option linter.unusedSimpArgs false
set_option linter.unusedVariables false
namespace Go.Proofs.YtcmoglbmngmgnaaDoor
open Go.RowKit

/-- Is the second one greater? -/
def gt2 (m c p q : Int) : Bool := decide (0 < cmp2 p q m c)
def mx1 (m c p q : Int) : Int := if gt2 m c p q then p else m
def mx2 (m c p q : Int) : Int := if gt2 m c p q then q else c
set_option maxHeartbeats 1000000 in
theorem hlc_max2 (B : Nat) (m c p q : Int) (w : World) (h0 : w.cell? ⟨B, 0, none⟩ = some (.int .i64 m)) (h1 : w.cell? ⟨B, 1, none⟩ = some (.int .i64 c)) (h2 : w.cell? ⟨B, 2, none⟩ = some (.int .i64 p)) (h3 : w.cell? ⟨B, 3, none⟩ = some (.int .i64 q)) (hB : B < w.heap.size) :
    Calls Tryd.prog 25 #[.slice (some ⟨B, 0, none⟩) 2 2] w fun e w' => e = .returned (.agg #[.int .i64 (mx1 m c p q), .int .i64 (mx2 m c p q)]) ∧ Below w.heap.size w w' := by
  unfold mx1 mx2
  have n0 : w.heap.size ≠ B := by omega
  have n1 : w.heap.size + 1 ≠ B := by omega
  have n2 : w.heap.size + 1 + 1 ≠ B := by omega
  have m0 : ¬ w.heap.size = B := n0
  have l1 : B < w.heap.size + 1 := by omega
  have l2 : B < w.heap.size + 1 + 1 := by omega
  have l3 : B < w.heap.size + 1 + 1 + 1 := by omega
  cases hg : gt2 m c p q
  · have hg' : decide (0 < cmp2 p q m c) = false := hg
    clear hg
    go_enter Tryd.func25, Tryd.ntmps25
    go_wp2
    refine wp_loop_rounds 3 ?_
    rw [rounds_succ]
    go_wp2_with fail
    rw [rounds_succ]
    go_wp2_with (go_at_call 31; refine (hlc_compare _ _ _ _ _).mono ?_; rintro e w1 ⟨rfl, hb1⟩; obtain ⟨hc1, hf1⟩ := bcell hb1; have hz1 := hb1.size; (try simp only [World.size_alloc, World.size_setCell, World.heap_drewN] at hb1 hc1 hf1 hz1); (try have ha01 : w.heap.size < w1.heap.size := by omega); (try have ha11 : w.heap.size + 1 < w1.heap.size := by omega); (try have ha21 : w.heap.size + 2 < w1.heap.size := by omega); (try have hal1 : w.heap.size ≤ w1.heap.size := by omega); (try have ham1 : w.heap.size < w1.heap.size + 2 := by omega))
    rw [rounds_succ]
    go_wp2
    have z0 : w1.cell? ⟨w.heap.size, 0, none⟩ = some (.int .i64 0) := by rw [hc1 _ _ (by omega)]; simp [go_sem]
    have z1 : w1.cell? ⟨w.heap.size, 1, none⟩ = some (.int .i64 0) := by rw [hc1 _ _ (by omega)]; simp [go_sem]
    refine bodyPost_ret (v := .agg #[.int .i64 m, .int .i64 c]) (by simp [results, Tryd.results25, go_sem, z0, z1]) rfl ⟨by simp, ?_⟩
    go_light
    (repeat' (first | (with_reducible exact Below.refl _ _) | (with_reducible assumption) | (with_reducible refine Below.trans ?_ (Below.mono (by with_reducible assumption) ?_)) | (with_reducible refine Below.alloc ?_ ?_ _) | (with_reducible refine Below.setCell ?_ ?_ _) | (with_reducible refine below_drewN ?_ _) | (with_reducible refine Below.drew ?_) | go_size))
  · have hg' : decide (0 < cmp2 p q m c) = true := hg
    clear hg
    go_enter Tryd.func25, Tryd.ntmps25
    go_wp2
    refine wp_loop_rounds 3 ?_
    rw [rounds_succ]
    go_wp2_with fail
    rw [rounds_succ]
    go_wp2_with (go_at_call 31; refine (hlc_compare _ _ _ _ _).mono ?_; rintro e w1 ⟨rfl, hb1⟩; obtain ⟨hc1, hf1⟩ := bcell hb1; have hz1 := hb1.size; (try simp only [World.size_alloc, World.size_setCell, World.heap_drewN] at hb1 hc1 hf1 hz1); (try have ha01 : w.heap.size < w1.heap.size := by omega); (try have ha11 : w.heap.size + 1 < w1.heap.size := by omega); (try have ha21 : w.heap.size + 2 < w1.heap.size := by omega); (try have hal1 : w.heap.size ≤ w1.heap.size := by omega); (try have ham1 : w.heap.size < w1.heap.size + 2 := by omega))
    rw [rounds_succ]
    go_wp2
    have z0 : w1.cell? ⟨w.heap.size, 0, none⟩ = some (.int .i64 0) := by rw [hc1 _ _ (by omega)]; simp [go_sem]
    have z1 : w1.cell? ⟨w.heap.size, 1, none⟩ = some (.int .i64 0) := by rw [hc1 _ _ (by omega)]; simp [go_sem]
    refine bodyPost_ret (v := .agg #[.int .i64 p, .int .i64 q]) (by simp [results, Tryd.results25, go_sem, z0, z1]) rfl ⟨by simp, ?_⟩
    go_light
    (repeat' (first | (with_reducible exact Below.refl _ _) | (with_reducible assumption) | (with_reducible refine Below.trans ?_ (Below.mono (by with_reducible assumption) ?_)) | (with_reducible refine Below.alloc ?_ ?_ _) | (with_reducible refine Below.setCell ?_ ?_ _) | (with_reducible refine below_drewN ?_ _) | (with_reducible refine Below.drew ?_) | go_size))
end Go.Proofs.YtcmoglbmngmgnaaDoor
