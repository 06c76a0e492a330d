/- octet.Writer: Raw, Bytes, Out; octet.Join of one row. -/
import Derived.Test.YtdffldlcbihjmaaDoorOctNums
import Derived.Laws.MakeOwn
set_option linter.unusedSimpArgs false
set_option linter.unusedVariables false
namespace Go.Proofs.YtdffldlcbihjmaaDoor
open Go.RowKit

def mk8 (n : Nat) : Array Value := madeCells (Value.int .u8 0).cells (n * 1)
theorem mk8_size (n : Nat) : (mk8 n).size = n * 1 := by simp [mk8, madeCells]
theorem run_mk8 (n : Nat) (hn : n ≤ 1000000) (w : World) : (Instr.makeSlice 28 (.int .i64 0) (.int .i64 (n : Int))).run Tryd.prog w = .ok (.slice (some ⟨w.heap.size, 0, none⟩) 0 n) (w.alloc (.cells (mk8 n) 5)) := by
  obtain ⟨i0, hi0, hz0, hz1, hz2⟩ := info_parts u8_info
  have h := run_makeSlice (P := Tryd.prog) w 28 5 i0 (.int .u8 0) Tryd.underlying28 hi0 hz0 .i64 .i64 0 n (Int.le_refl _) (by omega) (by rw [hz1]; omega) (by rw [hz2]; omega) (by omega)
  rw [hz1] at h
  exact h
theorem empty_loads : (∀ (ad : Addr) (w : World), (loadCellsFrom ad 0 0 #[]).run Tryd.prog w = .ok #[] w) ∧ (∀ (w : World) (p : Addr), (storeCells p []).run Tryd.prog w = .ok () w) := ⟨fun ad w => by simp [loadCellsFrom], fun w p => by simp [storeCells]⟩
theorem WrPost.same {b : Nat} {v : Value} {l : List Int} {w : World} (h : Wr w b v l) : WrPost b v l w (w.setCell ⟨b, 0, none⟩ v) v :=
  ⟨⟨World.cell?_setCell_same _ _ _ h.c0, by simpa using h.f0, by simpa [World.setCell] using h.lt, (But.of_only (S := fun k => k = b) ((Only.refl b w).setB v) rfl).row h.row (fun i hi hb => h.ne (hb ▸ hi)), h.ne⟩, (But.refl _ _).setCell (fun _ => .inl rfl) _, fun _ hk => .inl hk⟩
set_option maxRecDepth 100000 in
set_option maxHeartbeats 4000000 in
theorem wr_raw (b c : Nat) (A : Option Addr) (v : Value) (l p : List Int) (w : World) (h : Wr w b v l) (hl0 : 0 < l.length) (hp : ByL w A p) (hn : A = none → p.length = 0) (hl : (l ++ p).length ≤ 1000000) :
    Calls Tryd.prog 50 #[.pointer (some ⟨b, 0, none⟩), .slice A p.length c] w fun e w' => e = .returned (.tuple #[]) ∧ ∃ v', WrPost b v (l ++ p) w w' v' := by
  obtain ⟨i0, hi0, hz0, hz1, hz2⟩ := info_parts u8_info
  have HH := Lib.hid h
  obtain ⟨g0, c0, rfl, hc1, hc2, hc3⟩ := row_shape h.row hl0
  have b0 := h.c0
  have bf := h.f0
  have bl := h.lt
  have hrow : w.ownsRow 0 5 1 (.slice (some ⟨g0, 0, none⟩) l.length c0) l.length (bC l) := h.row
  have hbn : some b ≠ (Value.slice (some ⟨g0, 0, none⟩) l.length c0).ownBlock := fun e => h.ne e.symm
  have hll : l.length + p.length ≤ 1000000 := by simpa using hl
  clear h hl
  by_cases hp0 : 0 < p.length
  · obtain ⟨ad, rfl⟩ : ∃ ad, A = some ad := by
      cases A with
      | none => have := hn rfl; omega
      | some ad => exact ⟨ad, rfl⟩
    have hsrc := hp.cells
    clear hn
    go_enter Tryd.func50, Tryd.ntmps50
    go_wp2_with (at_builtin; refine wpList_append_lies _ rfl (.tmp 10) (.tmp 11) _ rfl 0 5 i0 _ 1 1 Tryd.underlying28 hi0 hz0 hz1 hz2 rfl (by decide) (.slice (some ⟨g0, 0, none⟩) l.length c0) l.length (bC l) rfl hrow ad p.length c (bC p) rfl (by rw [bC_len]; omega) hsrc (bC_one _) hp0 (by unfold maxLen; omega) (by omega) (Nat.zero_le _) _ rfl ?_; intro g2 cap2 w2 hown2 hg2 hat2 hlt2; have b2 : w2.cell? ⟨b, 0, none⟩ = some (.slice (some ⟨g0, 0, none⟩) l.length c0) := (hg2.cell_far ⟨b, 0, none⟩ bl hbn).trans b0; have f2 : w2.frozen? ⟨b, 0, none⟩ = false := (hg2.frozen_far ⟨b, 0, none⟩ bl hbn).trans bf)
    exact bodyPost_end (by simp [results, Tryd.results50, go_sem]) rfl ⟨rfl, _, WrPost.app (r := p) HH.out (Below.refl _ _) rfl hown2 hg2 hat2⟩
  · have hp1 : p = [] := List.length_eq_zero_iff.1 (by omega)
    subst hp1
    have hroom : l.length ≤ c0 := hc1
    have hroomi : (l.length : Int) ≤ (c0 : Int) := by omega
    have hld := empty_loads.1
    have hst := empty_loads.2
    rw [List.append_nil]
    have HS := Lib.hid (WrPost.same HH.out)
    clear hrow
    cases A with
    | none =>
      go_enter Tryd.func50, Tryd.ntmps50
      go_wp2
      exact bodyPost_end (by simp [results, Tryd.results50, go_sem]) rfl ⟨rfl, _, HS.out⟩
    | some ad =>
      go_enter Tryd.func50, Tryd.ntmps50
      go_wp2
      exact bodyPost_end (by simp [results, Tryd.results50, go_sem]) rfl ⟨rfl, _, HS.out⟩
set_option maxRecDepth 100000 in
set_option maxHeartbeats 4000000 in
theorem wr_bytes (b g c cc : Nat) (A : Option Addr) (v : Value) (l p : List Int) (w : World) (h : Wr w b v l) (hg : ¬ Foot b v g) (hlt : g < w.heap.size) (hz : w.cell? ⟨g, 0, none⟩ = some (.slice A p.length cc))
    (hp : ByL w A p) (hA : 0 < p.length → Av (Foot b v) A) (hn : A = none → p.length = 0) (hl : (l ++ (encN p.length ++ p)).length ≤ 1000000) :
    Calls Tryd.prog 81 #[.pointer (some ⟨b, 0, none⟩), .slice (some ⟨g, 0, none⟩) 1 c] w fun e w' => e = .returned (.tuple #[]) ∧ ∃ v', WrPost b v (l ++ (encN p.length ++ p)) w w' v' := by
  have hll : l.length + ((encN p.length).length + p.length) ≤ 1000000 := by simpa using hl
  have hb1 : Below w.heap.size w (w.alloc (.cells #[.int .i64 (p.length : Int)] 3)) := by (repeat' (first | (with_reducible exact Below.refl _ _) | (with_reducible assumption) | (with_reducible refine Below.trans ?_ (Below.mono (by with_reducible assumption) ?_)) | (with_reducible refine Below.alloc ?_ ?_ _) | (with_reducible refine Below.setCell ?_ ?_ _) | (with_reducible refine below_drewN ?_ _) | (with_reducible refine Below.drew ?_) | go_size))
  have h1 := h.below hb1
  have HN := Lib.hid (wr_nums b w.heap.size 1 v l [(p.length : Int)] _ h1 (fun hf => by have := h.foot_lt _ hf; omega) (by simp) (by intro j q; simp at q; subst q; simp) (by intro x hx; simp at hx; subst hx; omega) (by simp) (by simp [numsE]; omega))
  have HH := Lib.hid h
  have HP := Lib.hid hp
  have HA := Lib.hid hA
  have HB1 := Lib.hid hb1
  have hnb : ∀ k, Foot b v k → k < w.heap.size := h.foot_lt
  have HNB := Lib.hid hnb
  clear h h1 hp hA hb1 hnb hl
  go_enter Tryd.func81, Tryd.ntmps81
  go_wp2
  refine wp_loop_rounds 2 ?_
  rw [rounds_succ]
  go_wp2_with fail
  refine HN.out.mono ?_
  rintro e w1 ⟨rfl, v1, hw1⟩
  have hE : numsE [(p.length : Int)] = encN p.length := by simp [numsE]
  rw [hE] at hw1
  have hp1 := (HP.out.below HB1.out).but hw1.but HA.out
  have HR := Lib.hid (wr_raw b cc A v1 (l ++ encN p.length) p w1 hw1.wr (by have := encN_len0 p.length; simp; omega) hp1 hn (by simp; omega))
  have HW := Lib.hid (WrPost.first HB1.out hw1)
  have x1 : w1.cell? ⟨g, 0, none⟩ = some (.slice A p.length cc) := (hw1.but.cell g 0 (by simp; omega) hg).trans ((HB1.out.cell (p := ⟨g, 0, none⟩) hlt).trans hz)
  clear hw1 hp1 hE
  go_wp2_with fail
  refine HR.out.mono ?_
  rintro e w2 ⟨rfl, v2, hw2⟩
  have HW2 := Lib.hid (HW.out.trans hw2)
  clear hw2
  go_wp2_with fail
  rw [rounds_succ]
  go_wp2
  have := HW2.out
  rw [List.append_assoc] at this
  exact bodyPost_end (by simp [results, Tryd.results81, go_sem]) rfl ⟨rfl, v2, this⟩
end Go.Proofs.YtdffldlcbihjmaaDoor
