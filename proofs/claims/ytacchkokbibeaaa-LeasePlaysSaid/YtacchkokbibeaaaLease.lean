/- lease.Leases with one lease: Open, find, at, At, Floor. -/
import Derived.Test.YtacchkokbibeaaaHlcCmp
import Derived.Test.YtacchkokbibeaaaInts2
import Derived.Test.YtacchkokbibeaaaCells
import Derived.Deep.AppendLies
import Derived.Deep.RegionLaw
set_option linter.unusedSimpArgs false
set_option linter.unusedVariables false
namespace Go.Proofs.Ytacchkokbibeaaa
open Go.RowKit

theorem lease_info : (Try.prog.info? 65).map (fun i => (i.zero, i.size, i.bytes)) = some (some (.agg #[.int .i64 0, .int .i64 0, .int .i64 0, .int .i64 0]), 4, 32) := by kernel_rfl
/-- Leases without one. -/
structure None0 (w : World) (b : Nat) : Prop where
  c0 : w.cell? ⟨b, 0, none⟩ = some (.slice none 0 0)
  c1 : w.cell? ⟨b, 1, none⟩ = some (.int .i64 0)
  f0 : w.frozen? ⟨b, 0, none⟩ = false
  f1 : w.frozen? ⟨b, 1, none⟩ = false
  lt : b < w.heap.size
/-- Leases with one, of number 0. -/
structure One (w : World) (b g cap : Nat) (m c u : Int) : Prop where
  c0 : w.cell? ⟨b, 0, none⟩ = some (.slice (some ⟨g, 0, none⟩) 1 cap)
  c1 : w.cell? ⟨b, 1, none⟩ = some (.int .i64 1)
  f0 : w.frozen? ⟨b, 0, none⟩ = false
  f1 : w.frozen? ⟨b, 1, none⟩ = false
  lt : b < w.heap.size
  r0 : w.cell? ⟨g, 0, none⟩ = some (.int .i64 0)
  r1 : w.cell? ⟨g, 1, none⟩ = some (.int .i64 m)
  r2 : w.cell? ⟨g, 2, none⟩ = some (.int .i64 c)
  r3 : w.cell? ⟨g, 3, none⟩ = some (.int .i64 u)
  rf : ∀ o, w.frozen? ⟨g, o, none⟩ = false
  gt : g < w.heap.size
  ne : b ≠ g
theorem One.below {w w' : World} {b g cap : Nat} {m c u : Int} (h : One w b g cap m c u) (k : Below w.heap.size w w') : One w' b g cap m c u :=
  ⟨(k.cell (p := ⟨b, 0, none⟩) h.lt).trans h.c0, (k.cell (p := ⟨b, 1, none⟩) h.lt).trans h.c1, (k.frozen (p := ⟨b, 0, none⟩) h.lt).trans h.f0, (k.frozen (p := ⟨b, 1, none⟩) h.lt).trans h.f1, Nat.lt_of_lt_of_le h.lt k.size,
   (k.cell (p := ⟨g, 0, none⟩) h.gt).trans h.r0, (k.cell (p := ⟨g, 1, none⟩) h.gt).trans h.r1, (k.cell (p := ⟨g, 2, none⟩) h.gt).trans h.r2, (k.cell (p := ⟨g, 3, none⟩) h.gt).trans h.r3, fun o => (k.frozen (p := ⟨g, o, none⟩) h.gt).trans (h.rf o), Nat.lt_of_lt_of_le h.gt k.size, h.ne⟩
theorem lease_new (w : World) : Calls Try.prog 8 #[] w fun e w' => e = .returned (.pointer (some ⟨w.heap.size, 0, none⟩)) ∧ w' = w.alloc (.cells #[.slice none 0 0, .int .i64 0] 60) := by
  go_enter Try.func8, Try.ntmps8
  go_wp2
  go_ret
  exact ⟨rfl, rfl⟩
theorem none_new (w : World) : None0 (w.alloc (.cells #[.slice none 0 0, .int .i64 0] 60)) w.heap.size := by constructor <;> simp
set_option maxRecDepth 100000 in
set_option maxHeartbeats 4000000 in
theorem lease_open (b : Nat) (m c u : Int) (w : World) (h : None0 w b) (hs : isStampB m c = true) (hu : 0 ≤ u) :
    Calls Try.prog 9 #[.pointer (some ⟨b, 0, none⟩), .agg #[.int .i64 m, .int .i64 c], .int .i64 u] w fun e w' => e = .returned (.tuple #[.int .i64 0, .int .i64 0]) ∧ Only b w w' ∧ ∃ g cap, w.heap.size ≤ g ∧ One w' b g cap m c u := by
  obtain ⟨i0, hi0, hz0, hz1, hz2⟩ := info_parts lease_info
  have HB0 : Below w.heap.size w (w.alloc (.cells #[.int .i64 m, .int .i64 c] 30)) := by (repeat' (first | (with_reducible exact Below.refl _ _) | (with_reducible assumption) | (with_reducible refine Below.trans ?_ (Below.mono (by with_reducible assumption) ?_)) | (with_reducible refine Below.alloc ?_ ?_ _) | (with_reducible refine Below.setCell ?_ ?_ _) | (with_reducible refine below_drewN ?_ _) | (with_reducible refine Below.drew ?_) | go_size))
  obtain ⟨c0, c1, f0, f1, lb⟩ := h
  have t1 : decide (u < 0) = false := by simp only [decide_eq_false_iff_not]; omega
  clear hu
  go_enter Try.func9, Try.ntmps9
  go_wp2_with fail
  refine (hlc_pack_yes m c _ hs).mono ?_; rintro e w1 ⟨rfl, hb1⟩
  have HB1 : Below w.heap.size w w1 := HB0.trans (hb1.mono HB0.size)
  have S0 : w1.cell? ⟨w.heap.size, 0, none⟩ = some (.int .i64 m) := (hb1.cell (p := ⟨w.heap.size, 0, none⟩) (by simp)).trans (by simp)
  have S1 : w1.cell? ⟨w.heap.size, 1, none⟩ = some (.int .i64 c) := (hb1.cell (p := ⟨w.heap.size, 1, none⟩) (by simp)).trans (by simp)
  have l1 : w.heap.size < w1.heap.size := by have := hb1.size; simp at this; omega
  have b0 := (HB1.cell (p := ⟨b, 0, none⟩) lb).trans c0
  have b1 := (HB1.cell (p := ⟨b, 1, none⟩) lb).trans c1
  have g0 := (HB1.frozen (p := ⟨b, 0, none⟩) lb).trans f0
  have g1 := (HB1.frozen (p := ⟨b, 1, none⟩) lb).trans f1
  have lb1 : b < w1.heap.size := by omega
  clear hb1 c0 c1 f0 f1 HB0
  have z1 := HB1.size
  go_wp2_with fail
  have S0' : (w1.setCell ⟨b, 1, none⟩ (.int .i64 1)).cell? ⟨w.heap.size, 0, none⟩ = some (.int .i64 m) := (World.cell?_setCell_other _ _ _ _ (by simp)).trans S0
  have S1' : (w1.setCell ⟨b, 1, none⟩ (.int .i64 1)).cell? ⟨w.heap.size, 1, none⟩ = some (.int .i64 c) := (World.cell?_setCell_other _ _ _ _ (by simp; try omega)).trans S1
  have b0' : (w1.setCell ⟨b, 1, none⟩ (.int .i64 1)).cell? ⟨b, 0, none⟩ = some (.slice none 0 0) := (World.cell?_setCell_other _ _ _ _ (by simp)).trans b0
  have b1' : (w1.setCell ⟨b, 1, none⟩ (.int .i64 1)).cell? ⟨b, 1, none⟩ = some (.int .i64 1) := World.cell?_setCell_same _ _ _ b1
  have g0' : (w1.setCell ⟨b, 1, none⟩ (.int .i64 1)).frozen? ⟨b, 0, none⟩ = false := by simpa using g0
  have g1' : (w1.setCell ⟨b, 1, none⟩ (.int .i64 1)).frozen? ⟨b, 1, none⟩ = false := by simpa using g1
  have ho : Only b w (w1.setCell ⟨b, 1, none⟩ (.int .i64 1)) := (Only.of_below HB1).setB _
  have l1' : w.heap.size < (w1.setCell ⟨b, 1, none⟩ (.int .i64 1)).heap.size := by simpa [World.setCell] using l1
  have lb' : b < (w1.setCell ⟨b, 1, none⟩ (.int .i64 1)).heap.size := by simpa [World.setCell] using lb1
  clear S0 S1 b0 b1 g0 g1 l1 lb1 HB1 z1
  generalize w1.setCell ⟨b, 1, none⟩ (.int .i64 1) = w2 at *
  have z2 := ho.size
  go_region_law
    ((refine step_append_lies _ (by rfl) _ _ _ (by rfl) w2.heap.size 65 i0 _ 4 32 Try.underlying58 hi0 hz0 hz1 hz2 rfl (by omega) (.slice none 0 0) 0 [] (by rfl) (World.ownsRow_nil _ _ _ _)
        ⟨w2.heap.size, 0, none⟩ 1 1 [.int .i64 0, .int .i64 m, .int .i64 c, .int .i64 u] (by rfl) (by rfl) (World.news_of_block (cs := #[.int .i64 0, .int .i64 m, .int .i64 c, .int .i64 u]) (t := 65) (fr := (0, 0)) (heap_alloc_new w2 _)) (by simp [Value.oneCell'])
        (by omega) (by unfold maxLen; omega) (by omega) (by simp; try omega) (w2.heap.size + 1) (by simp) ?_; intro g cap w3 hown hgrow hat hlt; have b3 : w3.cell? ⟨b, 0, none⟩ = some (.slice none 0 0) := (hgrow.cell_far _ (by simp; omega) (by simp [Value.ownBlock])).trans ((World.cell?_alloc_past _ _ _ lb').trans b0'); have s3 : w3.cell? ⟨w.heap.size, 0, none⟩ = some (.int .i64 m) := (hgrow.cell_far _ (by simp; omega) (by simp [Value.ownBlock])).trans ((World.cell?_alloc_past _ _ _ l1').trans S0'); have s4 : w3.cell? ⟨w.heap.size, 1, none⟩ = some (.int .i64 c) := (hgrow.cell_far _ (by simp; omega) (by simp [Value.ownBlock])).trans ((World.cell?_alloc_past _ _ _ l1').trans S1'); have g3 : w3.frozen? ⟨b, 0, none⟩ = false := (hgrow.frozen_far _ (by simp; omega) (by simp [Value.ownBlock])).trans (((Below.alloc (Below.refl w2.heap.size w2) (Nat.le_refl _) (.cells #[.int .i64 0, .int .i64 m, .int .i64 c, .int .i64 u] 65)).frozen (p := ⟨b, 0, none⟩) lb').trans g0')))
  all_goals
    have hg : g = w2.heap.size + 1 := hat.resolve_left (by simp [Value.ownBlock])
    have r0 : w3.cell? ⟨g, 0, none⟩ = some (.int .i64 0) := by have := hown.cells (g := g) rfl 0 _ rfl; rwa [at_add] at this
    have r1 : w3.cell? ⟨g, 1, none⟩ = some (.int .i64 m) := by have := hown.cells (g := g) rfl 1 _ rfl; rwa [at_add] at this
    have r2 : w3.cell? ⟨g, 2, none⟩ = some (.int .i64 c) := by have := hown.cells (g := g) rfl 2 _ rfl; rwa [at_add] at this
    have r3 : w3.cell? ⟨g, 3, none⟩ = some (.int .i64 u) := by have := hown.cells (g := g) rfl 3 _ rfl; rwa [at_add] at this
    have rf : ∀ o, w3.frozen? ⟨g, o, none⟩ = false := by
      intro o
      rcases hown.2 with ⟨h, _⟩ | ⟨g', cap', cur, h, _, hh, _⟩
      · cases h
      · injection h with h1
        injection h1 with h1
        injection h1 with h1
        subst h1
        simp [World.frozen?, hh]
    have hb23 : Below w2.heap.size w2 w3 := Below.grown (by (repeat' (first | (with_reducible exact Below.refl _ _) | (with_reducible assumption) | (with_reducible refine Below.trans ?_ (Below.mono (by with_reducible assumption) ?_)) | (with_reducible refine Below.alloc ?_ ?_ _) | (with_reducible refine Below.setCell ?_ ?_ _) | (with_reducible refine below_drewN ?_ _) | (with_reducible refine Below.drew ?_) | go_size))) hgrow (by simp) (fun k hk => by simp [Value.ownBlock] at hk)
    have b4 : w3.cell? ⟨b, 1, none⟩ = some (.int .i64 1) := (hb23.cell (p := ⟨b, 1, none⟩) lb').trans b1'
    have g4 : w3.frozen? ⟨b, 1, none⟩ = false := (hb23.frozen (p := ⟨b, 1, none⟩) lb').trans g1'
    have HO3 : Only b w w3 := ho.trans (Only.of_below hb23)
    have lb3 : b < w3.heap.size := Nat.lt_of_lt_of_le lb' hb23.size
    have ngb : b ≠ g := by omega
    have R0 := Lib.hid r0
    have R1 := Lib.hid r1
    have R2 := Lib.hid r2
    have R3 := Lib.hid r3
    clear hown hgrow hat r0 r1 r2 r3 hb23 b0' b1' S0' S1' s3 s4 g0' g1'
    go_wp2
    go_ret2
    go_light
    refine ⟨rfl, by (repeat' (first | (with_reducible exact Only.refl _ _) | (with_reducible assumption) | (with_reducible refine Only.alloc ?_ _) | (with_reducible refine Only.setB ?_ _) | (refine Only.setCell ?_ (Or.inr ?_) _) | (with_reducible refine Only.drewN ?_ _) | (with_reducible refine Only.drew ?_) | (with_reducible refine Only.trans ?_ (by with_reducible assumption)) | (with_reducible refine Only.trans ?_ (Only.of_below (by with_reducible assumption))) | go_size)), g, cap, by omega, ?_⟩
    exact ⟨World.cell?_setCell_same _ _ _ b3, (World.cell?_setCell_other _ _ _ _ (by simp)).trans b4, by simpa using g3, by simpa using g4, by simpa [World.setCell] using lb3,
      (World.cell?_setCell_other _ _ _ _ (by simp)).trans R0.out, (World.cell?_setCell_other _ _ _ _ (by simp)).trans R1.out, (World.cell?_setCell_other _ _ _ _ (by simp)).trans R2.out, (World.cell?_setCell_other _ _ _ _ (by simp)).trans R3.out, fun o => by simpa using rf o, by simpa [World.setCell] using hlt, ngb⟩
theorem find_cmp (a m c u id : Int) (w : World) : Calls Try.prog 37 #[.agg #[.int .i64 a, .int .i64 m, .int .i64 c, .int .i64 u], .int .i64 id] w fun e w' => e = .returned (.int .i64 (cmp1 a id)) ∧ Below w.heap.size w w' := by
  go_enter Try.func37, Try.ntmps37
  go_wp2_with (go_at_call 38; refine (cmp_compare _ _ _).mono ?_; rintro e w' ⟨rfl, rfl⟩)
  go_ret
  go_light
  exact ⟨rfl, by (repeat' (first | (with_reducible exact Below.refl _ _) | (with_reducible assumption) | (with_reducible refine Below.trans ?_ (Below.mono (by with_reducible assumption) ?_)) | (with_reducible refine Below.alloc ?_ ?_ _) | (with_reducible refine Below.setCell ?_ ?_ _) | (with_reducible refine below_drewN ?_ _) | (with_reducible refine Below.drew ?_) | go_size))⟩
set_option maxHeartbeats 2000000 in
theorem lease_find0 (b g cap : Nat) (m c u : Int) (w : World) (h : One w b g cap m c u) : Calls Try.prog 29 #[.pointer (some ⟨b, 0, none⟩), .int .i64 0] w fun e w' => e = .returned (.tuple #[.int .i64 0, .bool true]) ∧ Below w.heap.size w w' := by
  have HB : Calls Try.prog 36 #[.slice (some ⟨g, 0, none⟩) 1 cap, .int .i64 0, .func (.func 37) #[] #[]] w fun e w' => e = .returned (.tuple #[.int .i64 0, .bool true]) ∧ Below w.heap.size w w' := by
    have r0 := h.r0
    have r1 := h.r1
    have r2 := h.r2
    have r3 := h.r3
    have HH := Lib.hid h
    clear h
    go_enter Try.func36, Try.ntmps36
    go_wp2
    refine wp_loop_rounds 2 ?_
    rw [rounds_succ]
    go_wp2_with fail
    refine (find_cmp 0 m c u 0 _).mono ?_; rintro e w1 ⟨rfl, hb1⟩
    have H1 := HH.out.below hb1
    have s0 := H1.r0
    have s1 := H1.r1
    have s2 := H1.r2
    have s3 := H1.r3
    have ec : cmp1 0 0 = 0 := rfl
    rw [ec]
    clear ec r0 r1 r2 r3
    go_wp2
    rw [rounds_succ]
    go_wp2_with fail
    refine (find_cmp 0 m c u 0 _).mono ?_; rintro e w2 ⟨rfl, hb2⟩
    have ec : cmp1 0 0 = 0 := rfl
    rw [ec]
    clear ec s0 s1 s2 s3
    go_wp2
    go_ret2
    exact ⟨rfl, hb1.trans (hb2.mono hb1.size)⟩
  have HBB := Lib.hid HB
  have c0 := h.c0
  clear HB
  go_enter Try.func29, Try.ntmps29
  go_wp2_with fail
  refine HBB.out.mono ?_; rintro e w1 ⟨rfl, hb1⟩
  go_wp2
  go_ret2
  exact ⟨rfl, hb1⟩
end Go.Proofs.Ytacchkokbibeaaa
