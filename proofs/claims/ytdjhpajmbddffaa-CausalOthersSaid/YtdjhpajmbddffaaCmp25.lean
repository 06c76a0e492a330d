/- Stage 25: causal.compare; chain.Seen of any version at any stamp. -/
import Derived.Test.YtdjhpajmbddffaaHlcCmp
import Derived.Test.YtdjhpajmbddffaaBut
set_option linter.unusedSimpArgs false
set_option linter.unusedVariables false
namespace Go.Proofs.Ytdjhpajmbddffaa
open Go.RowKit

abbrev ver25 (ml ct vo : Int) (A : Option Addr) (n c : Nat) (g : Bool) (tt : Int) : Value := .agg #[.int .i64 ml, .int .i64 ct, .int .i64 vo, .slice A n c, .bool g, .int .i64 tt]
set_option maxRecDepth 100000 in
set_option maxHeartbeats 4000000 in
theorem causal_compare (ml ct vo : Int) (A : Option Addr) (n c : Nat) (g : Bool) (tt : Int) (ml' ct' vo' : Int) (A' : Option Addr) (n' c' : Nat) (g' : Bool) (tt' : Int) (w : World) :
    Calls Try.prog 48 #[ver25 ml ct vo A n c g tt, ver25 ml' ct' vo' A' n' c' g' tt'] w fun e w' => e = .returned (.int .i64 (or2 (cmp2 ml ct ml' ct') (cmp1 vo vo'))) ∧ Below w.heap.size w w' := by
  go_enter Try.func48, Try.ntmps48
  go_wp2
  go_region_held3 (fun w' => w'.cell? ⟨w.heap.size, 0, none⟩ = some (.int .i64 ml) ∧ w'.cell? ⟨w.heap.size, 1, none⟩ = some (.int .i64 ct) ∧ w'.cell? ⟨w.heap.size, 2, none⟩ = some (.int .i64 vo) ∧ w'.cell? ⟨w.heap.size + 1, 0, none⟩ = some (.int .i64 ml') ∧ w'.cell? ⟨w.heap.size + 1, 1, none⟩ = some (.int .i64 ct') ∧ w'.cell? ⟨w.heap.size + 1, 2, none⟩ = some (.int .i64 vo')) (first | (simp [go_sem, World.cell?_alloc_past]; done) | exact ⟨q0, q1, q2, q3, q4, q5⟩ | exact ⟨(World.cell?_alloc_past _ _ _ l0).trans q0, (World.cell?_alloc_past _ _ _ l0).trans q1, (World.cell?_alloc_past _ _ _ l0).trans q2, (World.cell?_alloc_past _ _ _ l1).trans q3, (World.cell?_alloc_past _ _ _ l1).trans q4, (World.cell?_alloc_past _ _ _ l1).trans q5⟩)
    (first
      | (go_at_call 20; refine (hlc_compare ml ct ml' ct' _).mono ?_; rintro e w1 ⟨rfl, hb1⟩; have q0 : w1.cell? ⟨w.heap.size, 0, none⟩ = some (.int .i64 ml) := (hb1.cell (p := ⟨w.heap.size, 0, none⟩) (by (try simp [go_sem]); (try omega))).trans (by simp [go_sem, World.cell?_alloc_past]); have q1 : w1.cell? ⟨w.heap.size, 1, none⟩ = some (.int .i64 ct) := (hb1.cell (p := ⟨w.heap.size, 1, none⟩) (by (try simp [go_sem]); (try omega))).trans (by simp [go_sem, World.cell?_alloc_past]); have q2 : w1.cell? ⟨w.heap.size, 2, none⟩ = some (.int .i64 vo) := (hb1.cell (p := ⟨w.heap.size, 2, none⟩) (by (try simp [go_sem]); (try omega))).trans (by simp [go_sem, World.cell?_alloc_past]); have q3 : w1.cell? ⟨w.heap.size + 1, 0, none⟩ = some (.int .i64 ml') := (hb1.cell (p := ⟨w.heap.size + 1, 0, none⟩) (by (try simp [go_sem]); (try omega))).trans (by simp [go_sem, World.cell?_alloc_past]); have q4 : w1.cell? ⟨w.heap.size + 1, 1, none⟩ = some (.int .i64 ct') := (hb1.cell (p := ⟨w.heap.size + 1, 1, none⟩) (by (try simp [go_sem]); (try omega))).trans (by simp [go_sem, World.cell?_alloc_past]); have q5 : w1.cell? ⟨w.heap.size + 1, 2, none⟩ = some (.int .i64 vo') := (hb1.cell (p := ⟨w.heap.size + 1, 2, none⟩) (by (try simp [go_sem]); (try omega))).trans (by simp [go_sem, World.cell?_alloc_past]); have z1 := hb1.size; (try simp only [World.size_alloc, World.heap_drewN] at z1); have l0 : w.heap.size < w1.heap.size := (by have h0 := hb1.size; (try simp [go_sem] at h0); omega); have l1 : w.heap.size + 1 < w1.heap.size := (by have h0 := hb1.size; (try simp [go_sem] at h0); omega))
      | (go_at_call 35; refine (cmp_compare _ _ _).mono ?_; rintro e w' ⟨rfl, rfl⟩)
      | (go_at_call 34; refine (cmp_or2 (cmp2 ml ct ml' ct') (cmp1 vo vo') w1.heap.size _ (by simp [go_sem]) (by simp [go_sem])).mono ?_; rintro e w' ⟨rfl, rfl⟩))
  go_wp2
  go_ret
  go_light
  exact ⟨rfl, by (repeat' (first | (with_reducible exact Below.refl _ _) | (with_reducible assumption) | (with_reducible refine Below.trans ?_ (Below.mono (by with_reducible assumption) ?_)) | (with_reducible refine Below.alloc ?_ ?_ _) | (with_reducible refine Below.setCell ?_ ?_ _) | (with_reducible refine below_drewN ?_ _) | (with_reducible refine Below.drew ?_) | go_size))⟩
/-- Is a version seen at a stamp? -/
def seenQ (ml ct : Int) (gn : Bool) (tt tm tc : Int) : Bool := !(decide (0 < cmp2 ml ct tm tc)) && (!gn && (tt == 0 || (decide (0 < tt) && decide (IntKind.u64.wrap (IntKind.u64.wrap tm - IntKind.u64.wrap ml) < IntKind.u64.wrap tt))))
set_option maxRecDepth 100000 in
set_option maxHeartbeats 4000000 in
theorem seen_any (ml ct vo : Int) (A : Option Addr) (n c : Nat) (gn : Bool) (tt tm tc : Int) (w : World) :
    Calls Try.prog 49 #[ver25 ml ct vo A n c gn tt, .agg #[.int .i64 tm, .int .i64 tc]] w fun e w' => e = .returned (.bool (seenQ ml ct gn tt tm tc)) ∧ Below w.heap.size w w' := by
  have hud : undef = Value.tuple #[] := rfl
  have HC0 := fun W => hlc_compare ml ct tm tc W
  have HE : Hid (seenQ ml ct gn tt tm tc = (!(decide (0 < cmp2 ml ct tm tc)) && (!gn && (tt == 0 || (decide (0 < tt) && decide (IntKind.u64.wrap (IntKind.u64.wrap tm - IntKind.u64.wrap ml) < IntKind.u64.wrap tt)))))) := rfl
  rw [HE.out]
  clear HE
  generalize cmp2 ml ct tm tc = q at *
  have HC := Lib.hid HC0
  clear HC0
  obtain ⟨b1, hb1⟩ : ∃ b, decide (0 < q) = b := ⟨_, rfl⟩
  rw [hb1]
  cases b1
  · cases gn
    · obtain ⟨b2, hb2⟩ : ∃ b, (tt == 0) = b := ⟨_, rfl⟩
      rw [hb2]
      cases b2
      · obtain ⟨b3, hb3⟩ : ∃ b, decide (0 < tt) = b := ⟨_, rfl⟩
        rw [hb3]
        cases b3
        · go_enter Try.func49, Try.ntmps49
          go_wp2_with (go_at_call 20; refine (HC.out _).mono ?_; rintro e w1 ⟨rfl, hb1⟩; obtain ⟨hc1, hf1⟩ := bcell hb1; (try simp only [World.size_alloc] at hc1 hf1); have q3 : w1.cell? ⟨w.heap.size, 4, none⟩ = some (.bool false) := (hc1 _ _ (by omega)).trans (by simp); have q0 : w1.cell? ⟨w.heap.size, 0, none⟩ = some (.int .i64 ml) := (hc1 _ _ (by omega)).trans (by simp); have q5 : w1.cell? ⟨w.heap.size, 5, none⟩ = some (.int .i64 tt) := (hc1 _ _ (by omega)).trans (by simp); have s0 : w1.cell? ⟨w.heap.size + 1, 0, none⟩ = some (.int .i64 tm) := (hc1 _ _ (by omega)).trans (by simp); clear hc1 hf1)
          go_ret
          go_light
          exact ⟨by simp, by (repeat' (first | (with_reducible exact Below.refl _ _) | (with_reducible assumption) | (with_reducible refine Below.trans ?_ (Below.mono (by with_reducible assumption) ?_)) | (with_reducible refine Below.alloc ?_ ?_ _) | (with_reducible refine Below.setCell ?_ ?_ _) | (with_reducible refine below_drewN ?_ _) | (with_reducible refine Below.drew ?_) | go_size))⟩
        · go_enter Try.func49, Try.ntmps49
          go_wp2_with (go_at_call 20; refine (HC.out _).mono ?_; rintro e w1 ⟨rfl, hb1⟩; obtain ⟨hc1, hf1⟩ := bcell hb1; (try simp only [World.size_alloc] at hc1 hf1); have q3 : w1.cell? ⟨w.heap.size, 4, none⟩ = some (.bool false) := (hc1 _ _ (by omega)).trans (by simp); have q0 : w1.cell? ⟨w.heap.size, 0, none⟩ = some (.int .i64 ml) := (hc1 _ _ (by omega)).trans (by simp); have q5 : w1.cell? ⟨w.heap.size, 5, none⟩ = some (.int .i64 tt) := (hc1 _ _ (by omega)).trans (by simp); have s0 : w1.cell? ⟨w.heap.size + 1, 0, none⟩ = some (.int .i64 tm) := (hc1 _ _ (by omega)).trans (by simp); clear hc1 hf1)
          go_ret
          go_light
          exact ⟨by simp, by (repeat' (first | (with_reducible exact Below.refl _ _) | (with_reducible assumption) | (with_reducible refine Below.trans ?_ (Below.mono (by with_reducible assumption) ?_)) | (with_reducible refine Below.alloc ?_ ?_ _) | (with_reducible refine Below.setCell ?_ ?_ _) | (with_reducible refine below_drewN ?_ _) | (with_reducible refine Below.drew ?_) | go_size))⟩
      · go_enter Try.func49, Try.ntmps49
        go_wp2_with (go_at_call 20; refine (HC.out _).mono ?_; rintro e w1 ⟨rfl, hb1⟩; obtain ⟨hc1, hf1⟩ := bcell hb1; (try simp only [World.size_alloc] at hc1 hf1); have q3 : w1.cell? ⟨w.heap.size, 4, none⟩ = some (.bool false) := (hc1 _ _ (by omega)).trans (by simp); have q0 : w1.cell? ⟨w.heap.size, 0, none⟩ = some (.int .i64 ml) := (hc1 _ _ (by omega)).trans (by simp); have q5 : w1.cell? ⟨w.heap.size, 5, none⟩ = some (.int .i64 tt) := (hc1 _ _ (by omega)).trans (by simp); have s0 : w1.cell? ⟨w.heap.size + 1, 0, none⟩ = some (.int .i64 tm) := (hc1 _ _ (by omega)).trans (by simp); clear hc1 hf1)
        go_ret
        go_light
        exact ⟨by simp, by (repeat' (first | (with_reducible exact Below.refl _ _) | (with_reducible assumption) | (with_reducible refine Below.trans ?_ (Below.mono (by with_reducible assumption) ?_)) | (with_reducible refine Below.alloc ?_ ?_ _) | (with_reducible refine Below.setCell ?_ ?_ _) | (with_reducible refine below_drewN ?_ _) | (with_reducible refine Below.drew ?_) | go_size))⟩
    · go_enter Try.func49, Try.ntmps49
      go_wp2_with (go_at_call 20; refine (HC.out _).mono ?_; rintro e w1 ⟨rfl, hb1⟩; obtain ⟨hc1, hf1⟩ := bcell hb1; (try simp only [World.size_alloc] at hc1 hf1); have q3 : w1.cell? ⟨w.heap.size, 4, none⟩ = some (.bool true) := (hc1 _ _ (by omega)).trans (by simp); have q0 : w1.cell? ⟨w.heap.size, 0, none⟩ = some (.int .i64 ml) := (hc1 _ _ (by omega)).trans (by simp); have q5 : w1.cell? ⟨w.heap.size, 5, none⟩ = some (.int .i64 tt) := (hc1 _ _ (by omega)).trans (by simp); have s0 : w1.cell? ⟨w.heap.size + 1, 0, none⟩ = some (.int .i64 tm) := (hc1 _ _ (by omega)).trans (by simp); clear hc1 hf1)
      go_ret
      go_light
      exact ⟨by simp, by (repeat' (first | (with_reducible exact Below.refl _ _) | (with_reducible assumption) | (with_reducible refine Below.trans ?_ (Below.mono (by with_reducible assumption) ?_)) | (with_reducible refine Below.alloc ?_ ?_ _) | (with_reducible refine Below.setCell ?_ ?_ _) | (with_reducible refine below_drewN ?_ _) | (with_reducible refine Below.drew ?_) | go_size))⟩
  · go_enter Try.func49, Try.ntmps49
    go_wp2_with (go_at_call 20; refine (HC.out _).mono ?_; rintro e w1 ⟨rfl, hb1⟩; obtain ⟨hc1, hf1⟩ := bcell hb1; (try simp only [World.size_alloc] at hc1 hf1); have q3 : w1.cell? ⟨w.heap.size, 4, none⟩ = some (.bool gn) := (hc1 _ _ (by omega)).trans (by simp); have q0 : w1.cell? ⟨w.heap.size, 0, none⟩ = some (.int .i64 ml) := (hc1 _ _ (by omega)).trans (by simp); have q5 : w1.cell? ⟨w.heap.size, 5, none⟩ = some (.int .i64 tt) := (hc1 _ _ (by omega)).trans (by simp); have s0 : w1.cell? ⟨w.heap.size + 1, 0, none⟩ = some (.int .i64 tm) := (hc1 _ _ (by omega)).trans (by simp); clear hc1 hf1)
    go_ret
    go_light
    exact ⟨by simp, by (repeat' (first | (with_reducible exact Below.refl _ _) | (with_reducible assumption) | (with_reducible refine Below.trans ?_ (Below.mono (by with_reducible assumption) ?_)) | (with_reducible refine Below.alloc ?_ ?_ _) | (with_reducible refine Below.setCell ?_ ?_ _) | (with_reducible refine below_drewN ?_ _) | (with_reducible refine Below.drew ?_) | go_size))⟩
end Go.Proofs.Ytdjhpajmbddffaa
