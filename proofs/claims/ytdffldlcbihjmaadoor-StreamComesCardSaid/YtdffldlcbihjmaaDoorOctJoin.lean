/- octet.Join of one row; octet.Writer: Out. -/
import Derived.Test.YtdffldlcbihjmaaDoorOctBytes
set_option linter.unusedSimpArgs false
set_option linter.unusedVariables false
namespace Go.Proofs.YtdffldlcbihjmaaDoor
open Go.RowKit

theorem own_base {w : World} {base base' : Nat} {e : TypeId} {size n : Nat} {v : Value} {xs : List Value} (hb : base' ≤ base) (h : w.ownsRow base e size v n xs) : w.ownsRow base' e size v n xs :=
  ⟨h.1, h.2.imp id (fun ⟨g, cap, cur, e, h1, h2⟩ => ⟨g, cap, cur, e, Nat.le_trans hb h1, h2⟩)⟩
/-- A row of its own is told. -/
def Told8 (p : List Int) (w w' : World) (e : Ending) : Prop := ∃ g cap, e = .returned (.slice (some ⟨g, 0, none⟩) p.length cap) ∧ Own8 w.heap.size w' (.slice (some ⟨g, 0, none⟩) p.length cap) p
set_option maxRecDepth 100000 in
set_option maxHeartbeats 4000000 in
theorem oct_join (g c cc : Nat) (A : Option Addr) (p : List Int) (w : World) (hlt : g < w.heap.size) (hz : w.cell? ⟨g, 0, none⟩ = some (.slice A p.length cc)) (hp : ByL w A p) (hn : A = none → p.length = 0) (hl : p.length ≤ 1000000) :
    Calls Tryd.prog 84 #[.slice (some ⟨g, 0, none⟩) 1 c] w fun e w' => Told8 p w w' e ∧ Below w.heap.size w w' := by
  obtain ⟨i0, hi0, hz0, hz1, hz2⟩ := info_parts u8_info
  have hmk := run_mk8 p.length hl
  have hmade := World.ownsRow_made (base := w.heap.size) (e := 5) (size := 1) w (mk8 p.length) p.length (Nat.le_refl _) (by unfold maxLen; omega) (mk8_size _)
  have HB1 : Below w.heap.size w (w.alloc (.cells (mk8 p.length) 5)) := by (repeat' (first | (with_reducible exact Below.refl _ _) | (with_reducible assumption) | (with_reducible refine Below.trans ?_ (Below.mono (by with_reducible assumption) ?_)) | (with_reducible refine Below.alloc ?_ ?_ _) | (with_reducible refine Below.setCell ?_ ?_ _) | (with_reducible refine below_drewN ?_ _) | (with_reducible refine Below.drew ?_) | go_size))
  have hp1 := hp.below HB1
  have x1 : (w.alloc (.cells (mk8 p.length) 5)).cell? ⟨g, 0, none⟩ = some (.slice A p.length cc) := (HB1.cell (p := ⟨g, 0, none⟩) hlt).trans hz
  have hpi : (p.length : Int) ≤ 1000000 := by omega
  have HP := Lib.hid hp1
  have HM := Lib.hid hmade
  have HB := Lib.hid HB1
  clear hp hp1 hmade HB1
  have hs1 : w.heap.size < (w.alloc (.cells (mk8 p.length) 5)).heap.size := by simp
  by_cases hp0 : 0 < p.length
  · obtain ⟨ad, rfl⟩ : ∃ ad, A = some ad := by
      cases A with
      | none => have := hn rfl; omega
      | some ad => exact ⟨ad, rfl⟩
    clear hn
    go_enter Tryd.func84, Tryd.ntmps84
    go_wp2
    refine wp_loop_rounds 2 ?_
    rw [rounds_succ]
    go_wp2
    rw [rounds_succ]
    go_wp2
    have hmade := HM.out
    have hp1 := HP.out
    have hb1 := HB.out
    generalize hW : w.alloc (.cells (mk8 p.length) 5) = w1 at *
    clear hW
    have hsrc := hp1.cells
    refine wp_loop_rounds 2 ?_
    rw [rounds_succ]
    go_wp2_with (at_builtin; refine wpList_append_lies _ rfl (.tmp 28) (.tmp 29) _ rfl w.heap.size 5 i0 _ 1 1 Tryd.underlying28 hi0 hz0 hz1 hz2 rfl (by decide) (.slice (some ⟨w.heap.size, 0, none⟩) 0 p.length) 0 [] rfl hmade ad p.length cc (bC p) rfl (by rw [bC_len]; omega) hsrc (bC_one _) hp0 (by unfold maxLen; omega) (by omega) (by omega) _ rfl ?_; intro g2 cap2 w2 hown2 hg2 hat2 hlt2)
    rw [rounds_succ]
    go_wp2
    go_ret
    rw [Nat.zero_add] at hown2
    refine ⟨⟨g2, cap2, rfl, by simpa using hown2⟩, hb1.grown hg2 (by omega) (fun k hk => by simp [Value.ownBlock] at hk; omega)⟩
  · have hp1 : p = [] := List.length_eq_zero_iff.1 (by omega)
    subst hp1
    have hld := empty_loads.1
    have hst := empty_loads.2
    have hmk0 : ∀ w : World, (Instr.makeSlice 28 (.int .i64 0) (.int .i64 0)).run Tryd.prog w = .ok (.slice (some ⟨w.heap.size, 0, none⟩) 0 0) (w.alloc (.cells (mk8 0) 5)) := fun w => run_mk8 0 (by omega) w
    have hHM := HM
    clear hmk
    cases A with
    | none =>
      go_enter Tryd.func84, Tryd.ntmps84
      go_wp2
      refine wp_loop_rounds 2 ?_
      rw [rounds_succ]
      go_wp2
      rw [rounds_succ]
      go_wp2
      refine wp_loop_rounds 2 ?_
      rw [rounds_succ]
      go_wp2
      rw [rounds_succ]
      go_wp2
      go_ret
      exact ⟨⟨_, _, rfl, hHM.out⟩, HB.out⟩
    | some ad =>
      go_enter Tryd.func84, Tryd.ntmps84
      go_wp2
      refine wp_loop_rounds 2 ?_
      rw [rounds_succ]
      go_wp2
      rw [rounds_succ]
      go_wp2
      refine wp_loop_rounds 2 ?_
      rw [rounds_succ]
      go_wp2
      rw [rounds_succ]
      go_wp2
      go_ret
      exact ⟨⟨_, _, rfl, hHM.out⟩, HB.out⟩
set_option maxRecDepth 100000 in
set_option maxHeartbeats 4000000 in
theorem wr_out (b : Nat) (v : Value) (l : List Int) (w : World) (h : Wr w b v l) (hl : l.length ≤ 1000000) :
    Calls Tryd.prog 52 #[.pointer (some ⟨b, 0, none⟩)] w fun e w' => Told8 l w w' e ∧ Below w.heap.size w w' := by
  obtain ⟨A, c, e, hby, ha, hc⟩ := h.row.bytes
  subst e
  have hb1 : Below w.heap.size w (w.alloc (.cells #[.slice A l.length c] 28)) := by (repeat' (first | (with_reducible exact Below.refl _ _) | (with_reducible assumption) | (with_reducible refine Below.trans ?_ (Below.mono (by with_reducible assumption) ?_)) | (with_reducible refine Below.alloc ?_ ?_ _) | (with_reducible refine Below.setCell ?_ ?_ _) | (with_reducible refine below_drewN ?_ _) | (with_reducible refine Below.drew ?_) | go_size))
  have b0 := h.c0
  have hn : A = none → l.length = 0 := by
    rintro rfl
    rcases h.row.2 with ⟨_, h0⟩ | ⟨g, cap, cur, e, _⟩
    · exact h0
    · cases e
  have HJ := Lib.hid (oct_join w.heap.size 1 c A l (w.alloc (.cells #[.slice A l.length c] 28)) (by simp) (by simp) (hby.below hb1) hn hl)
  have HB := Lib.hid hb1
  clear h hby ha hc hb1 hn
  go_enter Tryd.func52, Tryd.ntmps52
  go_wp2_with fail
  refine HJ.out.mono ?_
  rintro e w2 ⟨⟨g, cap, rfl, hown⟩, hb2⟩
  have HO := Lib.hid hown
  have HB2 := Lib.hid (HB.out.trans (hb2.mono (by simp)))
  clear hown hb2
  go_wp2
  go_ret
  exact ⟨⟨g, cap, rfl, own_base (by simp) HO.out⟩, HB2.out⟩
end Go.Proofs.YtdffldlcbihjmaaDoor
