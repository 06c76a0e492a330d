/- chain.compare, chain.Seen. -/
import Derived.Test.YtpflbhcgkndpcaaGreatDoorVsRow
set_option linter.unusedSimpArgs false
set_option linter.unusedVariables false
namespace Go.Proofs.YtpflbhcgkndpcaaGreatDoor
open Go.RowKit

set_option maxRecDepth 100000 in
set_option maxHeartbeats 4000000 in
theorem ch_compare (ml ct vo : Int) (A : Option Addr) (n c : Nat) (g : Bool) (tt : Int) (ml' ct' vo' : Int) (A' : Option Addr) (n' c' : Nat) (g' : Bool) (tt' : Int) (w : World) :
    Calls Tryz.prog 163 #[verV ml ct vo A n c g tt, verV ml' ct' vo' A' n' c' g' tt'] w fun e w' => e = .returned (.int .i64 (or2 (cmp2 ml ct ml' ct') (cmp1 vo vo'))) ∧ Below w.heap.size w w' := by
  go_enter Tryz.func163, Tryz.ntmps163
  go_wp2
  go_region_held3 (fun w' => w'.cell? ⟨w.heap.size, 0, none⟩ = some (.int .i64 ml) ∧ w'.cell? ⟨w.heap.size, 1, none⟩ = some (.int .i64 ct) ∧ w'.cell? ⟨w.heap.size, 2, none⟩ = some (.int .i64 vo) ∧ w'.cell? ⟨w.heap.size + 1, 0, none⟩ = some (.int .i64 ml') ∧ w'.cell? ⟨w.heap.size + 1, 1, none⟩ = some (.int .i64 ct') ∧ w'.cell? ⟨w.heap.size + 1, 2, none⟩ = some (.int .i64 vo')) (first | (simp [go_sem, World.cell?_alloc_past]; done) | exact ⟨q0, q1, q2, q3, q4, q5⟩ | exact ⟨(World.cell?_alloc_past _ _ _ l0).trans q0, (World.cell?_alloc_past _ _ _ l0).trans q1, (World.cell?_alloc_past _ _ _ l0).trans q2, (World.cell?_alloc_past _ _ _ l1).trans q3, (World.cell?_alloc_past _ _ _ l1).trans q4, (World.cell?_alloc_past _ _ _ l1).trans q5⟩)
    (first
      | (go_at_call 37; refine (hlc_compare ml ct ml' ct' _).mono ?_; rintro e w1 ⟨rfl, hb1⟩; have q0 : w1.cell? ⟨w.heap.size, 0, none⟩ = some (.int .i64 ml) := (hb1.cell (p := ⟨w.heap.size, 0, none⟩) (by (try simp [go_sem]); (try omega))).trans (by simp [go_sem, World.cell?_alloc_past]); have q1 : w1.cell? ⟨w.heap.size, 1, none⟩ = some (.int .i64 ct) := (hb1.cell (p := ⟨w.heap.size, 1, none⟩) (by (try simp [go_sem]); (try omega))).trans (by simp [go_sem, World.cell?_alloc_past]); have q2 : w1.cell? ⟨w.heap.size, 2, none⟩ = some (.int .i64 vo) := (hb1.cell (p := ⟨w.heap.size, 2, none⟩) (by (try simp [go_sem]); (try omega))).trans (by simp [go_sem, World.cell?_alloc_past]); have q3 : w1.cell? ⟨w.heap.size + 1, 0, none⟩ = some (.int .i64 ml') := (hb1.cell (p := ⟨w.heap.size + 1, 0, none⟩) (by (try simp [go_sem]); (try omega))).trans (by simp [go_sem, World.cell?_alloc_past]); have q4 : w1.cell? ⟨w.heap.size + 1, 1, none⟩ = some (.int .i64 ct') := (hb1.cell (p := ⟨w.heap.size + 1, 1, none⟩) (by (try simp [go_sem]); (try omega))).trans (by simp [go_sem, World.cell?_alloc_past]); have q5 : w1.cell? ⟨w.heap.size + 1, 2, none⟩ = some (.int .i64 vo') := (hb1.cell (p := ⟨w.heap.size + 1, 2, none⟩) (by (try simp [go_sem]); (try omega))).trans (by simp [go_sem, World.cell?_alloc_past]); have z1 := hb1.size; (try simp only [World.size_alloc, World.heap_drewN] at z1); have l0 : w.heap.size < w1.heap.size := (by have h0 := hb1.size; (try simp [go_sem] at h0); omega); have l1 : w.heap.size + 1 < w1.heap.size := (by have h0 := hb1.size; (try simp [go_sem] at h0); omega))
      | (go_at_call 67; refine (cmp_compare _ _ _).mono ?_; rintro e w' ⟨rfl, rfl⟩)
      | (go_at_call 66; refine (cmp_or2 (cmp2 ml ct ml' ct') (cmp1 vo vo') w1.heap.size _ (by simp [go_sem]) (by simp [go_sem])).mono ?_; rintro e w' ⟨rfl, rfl⟩))
  go_wp2
  go_ret
  go_light
  exact ⟨rfl, by (repeat' (first | (with_reducible exact Below.refl _ _) | (with_reducible assumption) | (with_reducible refine Below.trans ?_ (Below.mono (by with_reducible assumption) ?_)) | (with_reducible refine Below.alloc ?_ ?_ _) | (with_reducible refine Below.setCell ?_ ?_ _) | (with_reducible refine below_drewN ?_ _) | (with_reducible refine Below.drew ?_) | go_size))⟩
end Go.Proofs.YtpflbhcgkndpcaaGreatDoor
