/- Stage 25: causal.Newest of the one write that known makes (written by gen/nw25.py). -/
import Derived.Test.YtdjhpajmbddffaaCz25
import Derived.Test.YtdjhpajmbddffaaSeen25
import Derived.Test.YtdjhpajmbddffaaIns25
set_option linter.unusedSimpArgs false
set_option linter.unusedVariables false
namespace Go.Proofs.Ytdjhpajmbddffaa
open Go.RowKit

/-- The write that known makes. -/
structure Kw (w : World) (g : Nat) (A : Option Addr) (c : Nat) : Prop where
  c0 : w.cell? ⟨g, 0, none⟩ = some (.int .i64 0)
  c1 : w.cell? ⟨g, 1, none⟩ = some (.string ⟨#[107]⟩)
  c2 : w.cell? ⟨g, 2, none⟩ = some (.int .i64 5)
  c3 : w.cell? ⟨g, 3, none⟩ = some (.int .i64 0)
  c4 : w.cell? ⟨g, 4, none⟩ = some (.int .i64 0)
  c5 : w.cell? ⟨g, 5, none⟩ = some (.slice A 1 c)
  c6 : w.cell? ⟨g, 6, none⟩ = some (.bool false)
  c7 : w.cell? ⟨g, 7, none⟩ = some (.int .i64 0)
  c8 : w.cell? ⟨g, 8, none⟩ = some (.bool false)
  lt : g < w.heap.size
  by_ : ByL w A [97]
  nil : A = none → ([97] : List Int).length = 0
theorem cmp56 : cmp2 5 0 6 0 = -1 := by decide
set_option maxHeartbeats 8000000 in
theorem newest_one (g cap : Nat) (A : Option Addr) (c : Nat) (w : World) (h : Kw w g A c) :
    Calls Try.prog 36 #[.slice (some ⟨g, 0, none⟩) 1 cap, .string ⟨#[107]⟩, .agg #[.int .i64 6, .int .i64 0]] w fun e w' =>
      (∃ g2 cap2 A2 c2, e = .returned (.tuple #[.slice (some ⟨g2, 0, none⟩) 1 cap2, .bool false]) ∧ R1 w.heap.size w' g2 (.slice A2 1 c2) ∧ ByL w' A2 [97]) ∧ Below w.heap.size w w' := by
  have HC : ∀ W : World, Calls Try.prog 20 #[.agg #[.int .i64 5, .int .i64 0], .agg #[.int .i64 6, .int .i64 0]] W fun e w' => e = .returned (.int .i64 (-1)) ∧ Below W.heap.size W w' := fun W => by
    have := hlc_compare 5 0 6 0 W
    rw [cmp56] at this
    exact this
  have HS : ∀ W : World, Calls Try.prog 49 #[.agg #[.int .i64 5, .int .i64 0, .int .i64 0, .slice A 1 c, .bool false, .int .i64 0], .agg #[.int .i64 6, .int .i64 0]] W fun e w' => e = .returned (.bool true) ∧ Below W.heap.size W w' := fun W => seen25 5 0 0 6 0 A 1 c W (by rw [cmp56]; omega)
  have HCC := Lib.hid HC
  have HSS := Lib.hid HS
  have HH := Lib.hid h
  have a0 := h.c0
  have a1 := h.c1
  have a2 := h.c2
  have a3 := h.c3
  have a4 := h.c4
  have a5 := h.c5
  have a6 := h.c6
  have a7 := h.c7
  have a8 := h.c8
  have HG := Lib.hid h.lt
  have hlt := h.lt
  have hne : g ≠ w.heap.size := by omega
  clear HC HS h
  go_enter Try.func36, Try.ntmps36
  go_wp2_with fail
  refine wp_loop_rounds 2 ?_
  rw [rounds_succ]
  go_upto_region 13 with fail
  obtain ⟨V0, hV0⟩ : ∃ V0, (w.alloc (.cells #[.int .i64 6, .int .i64 0] 32)) = V0 := ⟨_, rfl⟩
  have k0 : Below w.heap.size w V0 := by rw [← hV0]; exact (Below.refl _ _).alloc (Nat.le_refl _) _
  have HB5 : Hid (w.heap.size < V0.heap.size) := Lib.hid (by rw [← hV0]; simp)
  have b0 : V0.cell? ⟨w.heap.size, 0, none⟩ = some (.int .i64 6) := by rw [← hV0]; simp
  have b1 : V0.cell? ⟨w.heap.size, 1, none⟩ = some (.int .i64 0) := by rw [← hV0]; simp
  replace a0 := (k0.cell (p := ⟨g, 0, none⟩) HG.out).trans a0
  replace a1 := (k0.cell (p := ⟨g, 1, none⟩) HG.out).trans a1
  replace a2 := (k0.cell (p := ⟨g, 2, none⟩) HG.out).trans a2
  replace a3 := (k0.cell (p := ⟨g, 3, none⟩) HG.out).trans a3
  replace a4 := (k0.cell (p := ⟨g, 4, none⟩) HG.out).trans a4
  replace a5 := (k0.cell (p := ⟨g, 5, none⟩) HG.out).trans a5
  replace a6 := (k0.cell (p := ⟨g, 6, none⟩) HG.out).trans a6
  replace a7 := (k0.cell (p := ⟨g, 7, none⟩) HG.out).trans a7
  replace a8 := (k0.cell (p := ⟨g, 8, none⟩) HG.out).trans a8
  rw [hV0]
  clear hlt hne
  have HG0 : Hid (g < V0.heap.size) := Lib.hid (Nat.lt_of_lt_of_le HG.out k0.size)
  have HK0 := Lib.hid k0
  clear hV0 k0
  generalize hb5 : w.heap.size = b5 at *
  refine wp_region_held_drew (S := fun w' => w'.cell? ⟨g, 2, none⟩ = some (.int .i64 5) ∧ w'.cell? ⟨g, 3, none⟩ = some (.int .i64 0) ∧ w'.cell? ⟨b5, 0, none⟩ = some (.int .i64 6) ∧ w'.cell? ⟨b5, 1, none⟩ = some (.int .i64 0)) (by kernel_rfl) ?_ (fun hHeld => ?_)
  · exact ⟨a2, a3, b0, b1⟩
  have k1 : Below V0.heap.size V0 V0.drew := (Below.refl _ _).drew
  obtain ⟨V1, hV1⟩ : ∃ V1, V0.drew = V1 := ⟨_, rfl⟩
  rw [hV1] at k1 hHeld ⊢
  clear hV1
  replace a0 := (k1.cell (p := ⟨g, 0, none⟩) HG0.out).trans a0
  replace a1 := (k1.cell (p := ⟨g, 1, none⟩) HG0.out).trans a1
  replace a2 := (k1.cell (p := ⟨g, 2, none⟩) HG0.out).trans a2
  replace a3 := (k1.cell (p := ⟨g, 3, none⟩) HG0.out).trans a3
  replace a4 := (k1.cell (p := ⟨g, 4, none⟩) HG0.out).trans a4
  replace a5 := (k1.cell (p := ⟨g, 5, none⟩) HG0.out).trans a5
  replace a6 := (k1.cell (p := ⟨g, 6, none⟩) HG0.out).trans a6
  replace a7 := (k1.cell (p := ⟨g, 7, none⟩) HG0.out).trans a7
  replace a8 := (k1.cell (p := ⟨g, 8, none⟩) HG0.out).trans a8
  replace b0 := (k1.cell (p := ⟨b5, 0, none⟩) HB5.out).trans b0
  replace b1 := (k1.cell (p := ⟨b5, 1, none⟩) HB5.out).trans b1
  have HG1 := Lib.hid (Nat.lt_of_lt_of_le HG0.out k1.size)
  have HB51 := Lib.hid (Nat.lt_of_lt_of_le HB5.out k1.size)
  have HK1 := Lib.hid (HK0.out.trans (k1.mono (hb5 ▸ HK0.out.size)))
  clear k1
  refine tk9 0 ?_
  refine tk9 1 ?_
  refine tk9 2 ?_
  refine tk9 3 ?_
  refine tk9 4 ?_
  refine tk9 5 ?_
  refine wpAnyH_ready (rs := [6]) (by kernel_rfl) (by simp) ?_
  refine AllReadyH.cons rfl (fun K hK => ?_) (AllReadyH.nil)
  go_simp
  (go_at_call 20; refine (HCC.out _).mono ?_; rintro e2 V2 ⟨rfl, k2⟩)
  replace a0 := (k2.cell (p := ⟨g, 0, none⟩) HG1.out).trans a0
  replace a1 := (k2.cell (p := ⟨g, 1, none⟩) HG1.out).trans a1
  replace a2 := (k2.cell (p := ⟨g, 2, none⟩) HG1.out).trans a2
  replace a3 := (k2.cell (p := ⟨g, 3, none⟩) HG1.out).trans a3
  replace a4 := (k2.cell (p := ⟨g, 4, none⟩) HG1.out).trans a4
  replace a5 := (k2.cell (p := ⟨g, 5, none⟩) HG1.out).trans a5
  replace a6 := (k2.cell (p := ⟨g, 6, none⟩) HG1.out).trans a6
  replace a7 := (k2.cell (p := ⟨g, 7, none⟩) HG1.out).trans a7
  replace a8 := (k2.cell (p := ⟨g, 8, none⟩) HG1.out).trans a8
  replace b0 := (k2.cell (p := ⟨b5, 0, none⟩) HB51.out).trans b0
  replace b1 := (k2.cell (p := ⟨b5, 1, none⟩) HB51.out).trans b1
  have HG2 := Lib.hid (Nat.lt_of_lt_of_le HG1.out k2.size)
  have HB52 := Lib.hid (Nat.lt_of_lt_of_le HB51.out k2.size)
  have HK2 := Lib.hid (HK1.out.trans (k2.mono (hb5 ▸ HK1.out.size)))
  clear k2
  (try dsimp only)
  refine hK.out _ _ ?_ (fun hHeld => ?_)
  · exact ⟨a2, a3, b0, b1⟩
  clear hK K
  (try simp only [Act.put, List.setIfInBounds_toArray, List.set_cons_zero, List.set_cons_succ, List.getElem_toArray, List.getElem_cons_succ, List.getElem_cons_zero])
  refine tk9 7 ?_
  refine tk9 8 ?_
  refine tk9 9 ?_
  refine tk9 10 ?_
  refine tk9 11 ?_
  refine tk9 (v := undef) 12 (hy := Or.inr ⟨by rfl, rfl⟩) ?_
  refine tk9 (v := undef) 13 (hy := Or.inr ⟨by rfl, rfl⟩) ?_
  refine tk9 (v := undef) 14 (hy := Or.inr ⟨by rfl, rfl⟩) ?_
  refine tk9 (v := undef) 15 (hy := Or.inr ⟨by rfl, rfl⟩) ?_
  refine tk9 (v := undef) 16 (hy := Or.inr ⟨by rfl, rfl⟩) ?_
  refine tk9 (v := undef) 17 (hy := Or.inr ⟨by rfl, rfl⟩) ?_
  refine tk9 (v := undef) 18 (hy := Or.inr ⟨by rfl, rfl⟩) ?_
  refine tk9 (v := undef) 19 (hy := Or.inr ⟨by rfl, rfl⟩) ?_
  refine tk9 (v := undef) 20 (hy := Or.inr ⟨by rfl, rfl⟩) ?_
  refine tk9 (v := undef) 21 (hy := Or.inr ⟨by rfl, rfl⟩) ?_
  refine tk9 22 ?_
  refine tk9 23 ?_
  refine tk9 24 ?_
  refine wpAnyH_done (by kernel_rfl) ?_ _
  clear hHeld
  go_wp2_with fail
  rw [rounds_succ]
  go_upto_region 16 with fail
  refine wp_region_held_drew (S := fun w' => (w'.cell? ⟨g, 2, none⟩ = some (.int .i64 5) ∧ w'.cell? ⟨g, 3, none⟩ = some (.int .i64 0) ∧ w'.cell? ⟨g, 4, none⟩ = some (.int .i64 0) ∧ w'.cell? ⟨g, 5, none⟩ = some (.slice A 1 c) ∧ w'.cell? ⟨g, 6, none⟩ = some (.bool false) ∧ w'.cell? ⟨g, 7, none⟩ = some (.int .i64 0)) ∧ w'.cell? ⟨b5, 0, none⟩ = some (.int .i64 6) ∧ w'.cell? ⟨b5, 1, none⟩ = some (.int .i64 0)) (by kernel_rfl) ?_ (fun hHeld => ?_)
  · exact ⟨⟨a2, a3, a4, a5, a6, a7⟩, b0, b1⟩
  have k3 : Below V2.heap.size V2 V2.drew := (Below.refl _ _).drew
  obtain ⟨V3, hV3⟩ : ∃ V3, V2.drew = V3 := ⟨_, rfl⟩
  rw [hV3] at k3 hHeld ⊢
  clear hV3
  replace a0 := (k3.cell (p := ⟨g, 0, none⟩) HG2.out).trans a0
  replace a1 := (k3.cell (p := ⟨g, 1, none⟩) HG2.out).trans a1
  replace a2 := (k3.cell (p := ⟨g, 2, none⟩) HG2.out).trans a2
  replace a3 := (k3.cell (p := ⟨g, 3, none⟩) HG2.out).trans a3
  replace a4 := (k3.cell (p := ⟨g, 4, none⟩) HG2.out).trans a4
  replace a5 := (k3.cell (p := ⟨g, 5, none⟩) HG2.out).trans a5
  replace a6 := (k3.cell (p := ⟨g, 6, none⟩) HG2.out).trans a6
  replace a7 := (k3.cell (p := ⟨g, 7, none⟩) HG2.out).trans a7
  replace a8 := (k3.cell (p := ⟨g, 8, none⟩) HG2.out).trans a8
  replace b0 := (k3.cell (p := ⟨b5, 0, none⟩) HB52.out).trans b0
  replace b1 := (k3.cell (p := ⟨b5, 1, none⟩) HB52.out).trans b1
  have HG3 := Lib.hid (Nat.lt_of_lt_of_le HG2.out k3.size)
  have HB53 := Lib.hid (Nat.lt_of_lt_of_le HB52.out k3.size)
  have HK3 := Lib.hid (HK2.out.trans (k3.mono (hb5 ▸ HK2.out.size)))
  clear k3
  refine tk9 0 ?_
  refine tk9 1 ?_
  refine tk9 2 ?_
  refine tk9 3 ?_
  refine tk9 4 ?_
  refine tk9 5 ?_
  refine tk9 6 ?_
  refine tk9 7 ?_
  refine wpAnyH_ready (rs := [8]) (by kernel_rfl) (by simp) ?_
  refine AllReadyH.cons rfl (fun K hK => ?_) (AllReadyH.nil)
  go_simp
  (go_at_call 49; refine (HSS.out _).mono ?_; rintro e4 V4 ⟨rfl, k4⟩)
  replace a0 := (k4.cell (p := ⟨g, 0, none⟩) HG3.out).trans a0
  replace a1 := (k4.cell (p := ⟨g, 1, none⟩) HG3.out).trans a1
  replace a2 := (k4.cell (p := ⟨g, 2, none⟩) HG3.out).trans a2
  replace a3 := (k4.cell (p := ⟨g, 3, none⟩) HG3.out).trans a3
  replace a4 := (k4.cell (p := ⟨g, 4, none⟩) HG3.out).trans a4
  replace a5 := (k4.cell (p := ⟨g, 5, none⟩) HG3.out).trans a5
  replace a6 := (k4.cell (p := ⟨g, 6, none⟩) HG3.out).trans a6
  replace a7 := (k4.cell (p := ⟨g, 7, none⟩) HG3.out).trans a7
  replace a8 := (k4.cell (p := ⟨g, 8, none⟩) HG3.out).trans a8
  replace b0 := (k4.cell (p := ⟨b5, 0, none⟩) HB53.out).trans b0
  replace b1 := (k4.cell (p := ⟨b5, 1, none⟩) HB53.out).trans b1
  have HG4 := Lib.hid (Nat.lt_of_lt_of_le HG3.out k4.size)
  have HB54 := Lib.hid (Nat.lt_of_lt_of_le HB53.out k4.size)
  have HK4 := Lib.hid (HK3.out.trans (k4.mono (hb5 ▸ HK3.out.size)))
  clear k4
  (try dsimp only)
  refine hK.out _ _ ?_ (fun hHeld => ?_)
  · exact ⟨⟨a2, a3, a4, a5, a6, a7⟩, b0, b1⟩
  clear hK K
  (try simp only [Act.put, List.setIfInBounds_toArray, List.set_cons_zero, List.set_cons_succ, List.getElem_toArray, List.getElem_cons_succ, List.getElem_cons_zero])
  refine tk9 9 ?_
  refine tk9 10 ?_
  refine wpAnyH_done (by kernel_rfl) ?_ _
  clear hHeld
  have HCL := Lib.hid (bytes_clone A [97] c V4 (HH.out.by_.below (hb5 ▸ HK4.out)) HH.out.nil (by simp))
  go_wp2_with first | (go_at_call 14; refine HCL.out.mono ?_; rintro e5 V5 ⟨v5, rfl, ho5, k5⟩; obtain ⟨A5, c5, rfl, hl5, hby5, hn5, ha5⟩ := own8_shape ho5; have HY5 := Lib.hid hby5; have HK5 := Lib.hid (HK4.out.trans (k5.mono (hb5 ▸ HK4.out.size))); clear ho5 hl5 hby5 hn5 ha5 HCL k5) | (go_at_call 50; refine (ins_one V5.heap.size 1 A5 1 c5 _ (by simp)).mono ?_; rintro e6 V6 ⟨⟨g6, cap6, rfl, hr6⟩, k6⟩; have HR6 := Lib.hid hr6; have HK6 := Lib.hid k6; clear hr6 k6)
  go_ret2
  subst hb5
  have k5a : Below V5.heap.size V5 (V5.alloc (.cells #[.slice A5 1 c5] 33)) := (Below.refl _ _).alloc (Nat.le_refl _) _
  have k56 : Below V5.heap.size V5 V6 := k5a.trans (HK6.out.mono k5a.size)
  exact ⟨⟨g6, cap6, A5, c5, rfl, ⟨HR6.out.c0, by have := HR6.out.lo; have := HK5.out.size; simp at *; omega, HR6.out.lt⟩, HY5.out.below k56⟩, HK5.out.trans (k56.mono HK5.out.size)⟩
end Go.Proofs.Ytdjhpajmbddffaa
