/- The contracts of hlc.Max of two, Hear of one stamp, Raise, Last, Bound. -/
import Derived.Test.YtmbopdabbegbiaaHlcClk
set_option linter.unusedSimpArgs false
set_option linter.unusedVariables false
namespace Go.Proofs.Ytmbopdabbegbiaa
open Go.RowKit

/-- Is the second one greater? -/
def gt2 (m c p q : Int) : Bool := decide (0 < cmp2 p q m c)
def mx1 (m c p q : Int) : Int := if gt2 m c p q then p else m
def mx2 (m c p q : Int) : Int := if gt2 m c p q then q else c
set_option maxHeartbeats 1000000 in
theorem hlc_max2 (B : Nat) (m c p q : Int) (w : World) (h0 : w.cell? ⟨B, 0, none⟩ = some (.int .i64 m)) (h1 : w.cell? ⟨B, 1, none⟩ = some (.int .i64 c)) (h2 : w.cell? ⟨B, 2, none⟩ = some (.int .i64 p)) (h3 : w.cell? ⟨B, 3, none⟩ = some (.int .i64 q)) (hB : B < w.heap.size) :
    Calls Try.prog 32 #[.slice (some ⟨B, 0, none⟩) 2 2] w fun e w' => e = .returned (.agg #[.int .i64 (mx1 m c p q), .int .i64 (mx2 m c p q)]) ∧ Below w.heap.size w w' := by
  unfold mx1 mx2
  have n0 : w.heap.size ≠ B := by omega
  have n1 : w.heap.size + 1 ≠ B := by omega
  have n2 : w.heap.size + 1 + 1 ≠ B := by omega
  have m0 : ¬ w.heap.size = B := n0
  have l1 : B < w.heap.size + 1 := by omega
  have l2 : B < w.heap.size + 1 + 1 := by omega
  have l3 : B < w.heap.size + 1 + 1 + 1 := by omega
  cases hg : gt2 m c p q
  · have hg' : decide (0 < cmp2 p q m c) = false := hg
    clear hg
    go_enter Try.func32, Try.ntmps32
    go_wp2
    refine wp_loop_rounds 3 ?_
    rw [rounds_succ]
    go_wp2_with fail
    rw [rounds_succ]
    go_wp2_with (go_at_call 31; refine (hlc_compare _ _ _ _ _).mono ?_; rintro e w1 ⟨rfl, hb1⟩; obtain ⟨hc1, hf1⟩ := bcell hb1; have hz1 := hb1.size; (try simp only [World.size_alloc, World.size_setCell, World.heap_drewN] at hb1 hc1 hf1 hz1); (try have ha01 : w.heap.size < w1.heap.size := by omega); (try have ha11 : w.heap.size + 1 < w1.heap.size := by omega); (try have ha21 : w.heap.size + 2 < w1.heap.size := by omega); (try have hal1 : w.heap.size ≤ w1.heap.size := by omega); (try have ham1 : w.heap.size < w1.heap.size + 2 := by omega))
    rw [rounds_succ]
    go_wp2
    have z0 : w1.cell? ⟨w.heap.size, 0, none⟩ = some (.int .i64 0) := by rw [hc1 _ _ (by omega)]; simp [go_sem]
    have z1 : w1.cell? ⟨w.heap.size, 1, none⟩ = some (.int .i64 0) := by rw [hc1 _ _ (by omega)]; simp [go_sem]
    refine bodyPost_ret (v := .agg #[.int .i64 m, .int .i64 c]) (by simp [results, Try.results32, go_sem, z0, z1]) rfl ⟨by simp, ?_⟩
    go_light
    (repeat' (first | (with_reducible exact Below.refl _ _) | (with_reducible assumption) | (with_reducible refine Below.trans ?_ (Below.mono (by with_reducible assumption) ?_)) | (with_reducible refine Below.alloc ?_ ?_ _) | (with_reducible refine Below.setCell ?_ ?_ _) | (with_reducible refine below_drewN ?_ _) | (with_reducible refine Below.drew ?_) | go_size))
  · have hg' : decide (0 < cmp2 p q m c) = true := hg
    clear hg
    go_enter Try.func32, Try.ntmps32
    go_wp2
    refine wp_loop_rounds 3 ?_
    rw [rounds_succ]
    go_wp2_with fail
    rw [rounds_succ]
    go_wp2_with (go_at_call 31; refine (hlc_compare _ _ _ _ _).mono ?_; rintro e w1 ⟨rfl, hb1⟩; obtain ⟨hc1, hf1⟩ := bcell hb1; have hz1 := hb1.size; (try simp only [World.size_alloc, World.size_setCell, World.heap_drewN] at hb1 hc1 hf1 hz1); (try have ha01 : w.heap.size < w1.heap.size := by omega); (try have ha11 : w.heap.size + 1 < w1.heap.size := by omega); (try have ha21 : w.heap.size + 2 < w1.heap.size := by omega); (try have hal1 : w.heap.size ≤ w1.heap.size := by omega); (try have ham1 : w.heap.size < w1.heap.size + 2 := by omega))
    rw [rounds_succ]
    go_wp2
    have z0 : w1.cell? ⟨w.heap.size, 0, none⟩ = some (.int .i64 0) := by rw [hc1 _ _ (by omega)]; simp [go_sem]
    have z1 : w1.cell? ⟨w.heap.size, 1, none⟩ = some (.int .i64 0) := by rw [hc1 _ _ (by omega)]; simp [go_sem]
    refine bodyPost_ret (v := .agg #[.int .i64 p, .int .i64 q]) (by simp [results, Try.results32, go_sem, z0, z1]) rfl ⟨by simp, ?_⟩
    go_light
    (repeat' (first | (with_reducible exact Below.refl _ _) | (with_reducible assumption) | (with_reducible refine Below.trans ?_ (Below.mono (by with_reducible assumption) ?_)) | (with_reducible refine Below.alloc ?_ ?_ _) | (with_reducible refine Below.setCell ?_ ?_ _) | (with_reducible refine below_drewN ?_ _) | (with_reducible refine Below.drew ?_) | go_size))
set_option maxHeartbeats 1000000 in
theorem hlc_hear1_ok (b B : Nat) (m c bd t p q : Int) (w : World) (k : Ints3 w b m c bd) (ht : isMilliB t = true) (hs : isStampB p q = true) (hd : p ≤ t + 60000) (h0 : w.cell? ⟨B, 0, none⟩ = some (.int .i64 p)) (h1 : w.cell? ⟨B, 1, none⟩ = some (.int .i64 q)) (hB : B < w.heap.size) (hne : B ≠ b) :
    Calls Try.prog 19 #[.pointer (some ⟨b, 0, none⟩), .int .i64 t, .slice (some ⟨B, 0, none⟩) 1 1] w fun e w' => e = .returned (.int .i64 0) ∧ Only b w w' ∧ Ints3 w' b (mx1 m c p q) (mx2 m c p q) bd := by
  have k' := k
  obtain ⟨c0, c1, c2, f0, f1, f2, lt⟩ := k'
  have tb : 0 ≤ t ∧ t ≤ 281474976710655 := by simpa [isMilliB] using ht
  have n0 : w.heap.size ≠ B := by omega
  have l1 : B < w.heap.size + 1 := by omega
  have l2 : B < w.heap.size + 1 + 1 := by omega
  go_enter Try.func19, Try.ntmps19
  go_wp2_with (go_at_call 34; refine (hlc_isMilli _ _).mono ?_; rintro e w' ⟨rfl, rfl⟩)
  refine wp_loop_rounds 2 ?_
  rw [rounds_succ]
  go_wp2_with fail
  refine (hlc_isStamp p q _).mono ?_; rintro e w1 ⟨rfl, hb1⟩; obtain ⟨hc1, hf1⟩ := bcell hb1; have hz1 := hb1.size; (try simp only [World.size_alloc, World.size_setCell, World.heap_drewN] at hb1 hc1 hf1 hz1); (try have ha01 : w.heap.size < w1.heap.size := by omega); (try have ha11 : w.heap.size + 1 < w1.heap.size := by omega); (try have ha21 : w.heap.size + 2 < w1.heap.size := by omega); (try have hal1 : w.heap.size ≤ w1.heap.size := by omega); (try have ham1 : w.heap.size < w1.heap.size + 2 := by omega)
  have l4 : B < w1.heap.size := by omega
  have l5 : b < w1.heap.size := by omega
  have l6 : B < w1.heap.size + 1 := by omega
  have l7 : b < w1.heap.size + 1 := by omega
  have l8 : b < w.heap.size + 1 := by omega
  have l9 : w1.heap.size ≠ B := by omega
  have l0 : w1.heap.size ≠ b := by omega
  rw [hs]
  go_wp2_with fail
  rw [rounds_succ]
  go_wp2
  refine wp_loop_rounds 2 ?_
  rw [rounds_succ]
  go_wp2
  rw [rounds_succ]
  go_wp2
  refine wp_loop_rounds 2 ?_
  rw [rounds_succ]
  go_wp2
  have x0 : w1.cell? ⟨b, 0, none⟩ = some (.int .i64 m) := by rw [hc1 _ _ (by omega), World.cell?_alloc_past _ _ _ lt]; exact c0
  have x1 : w1.cell? ⟨b, 1, none⟩ = some (.int .i64 c) := by rw [hc1 _ _ (by omega), World.cell?_alloc_past _ _ _ lt]; exact c1
  have K1 : Ints3 w1 b m c bd := (k.alloc _).below hb1 (by omega)
  go_region_with (first | (go_at_call 32; refine (hlc_max2 (w1.heap.size + 1 + 1) m c p q _ (by simp [go_sem]) (by simp [go_sem]) (by simp [go_sem]) (by simp [go_sem]) (by simp)).mono ?_; rintro e w2 ⟨rfl, hb2⟩; have K2 : Ints3 w2 b m c bd := ((((K1.alloc _).alloc _).alloc _).drew).below hb2 (by simp; omega); have y0 := K2.c0; have y1 := K2.c1; have g0 := K2.f0; have g1 := K2.f1))
  all_goals
    go_wp2
    rw [rounds_succ]
    go_wp2
    go_ret
    refine ⟨rfl, ?_, ?_⟩
    · go_light
      have HO : Only b w w2 := by
        refine Only.of_below ?_
        (repeat' (first | (with_reducible exact Below.refl _ _) | (with_reducible assumption) | (with_reducible refine Below.trans ?_ (Below.mono (by with_reducible assumption) ?_)) | (with_reducible refine Below.alloc ?_ ?_ _) | (with_reducible refine Below.setCell ?_ ?_ _) | (with_reducible refine below_drewN ?_ _) | (with_reducible refine Below.drew ?_) | go_size))
      (repeat' (first | (with_reducible exact Only.refl _ _) | (with_reducible assumption) | (with_reducible refine Only.alloc ?_ _) | (with_reducible refine Only.setB ?_ _) | (refine Only.setCell ?_ (Or.inr ?_) _) | (with_reducible refine Only.drewN ?_ _) | (with_reducible refine Only.drew ?_) | (with_reducible refine Only.trans ?_ (by with_reducible assumption)) | (with_reducible refine Only.trans ?_ (Only.of_below (by with_reducible assumption))) | go_size))
    · go_light
      (repeat' (first | (with_reducible assumption) | (with_reducible apply Ints3.set0) | (with_reducible apply Ints3.set1) | (with_reducible apply Ints3.set2) | (with_reducible refine Ints3.other ?_ ?_ _) | (with_reducible refine Ints3.alloc ?_ _) | (with_reducible refine Ints3.drewN ?_ _) | (with_reducible refine Ints3.drew ?_) | (with_reducible exact Ints3.new _ _ _ _ _) | go_size))
end Go.Proofs.Ytmbopdabbegbiaa
