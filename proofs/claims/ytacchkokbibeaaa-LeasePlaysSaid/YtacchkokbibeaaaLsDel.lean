/- slices.Delete of one lease; Close. -/
import Derived.Test.YtacchkokbibeaaaLsAt
import Derived.Test.YtacchkokbibeaaaRowSet
import Derived.Deep.RegionLaw
set_option linter.unusedSimpArgs false
set_option linter.unusedVariables false
namespace Go.Proofs.Ytacchkokbibeaaa
open Go.RowKit

theorem flat_erase (L : List Le) (i : Nat) (hi : i < L.length) : flat (L.eraseIdx i) = flat (L.take i) ++ flat (L.drop (i + 1)) := by
  rw [← flat_append, List.eraseIdx_eq_take_drop_succ]
set_option maxRecDepth 100000 in
set_option maxHeartbeats 4000000 in
theorem ls_delete (g cap : Nat) (L : List Le) (i : Nat) (w : World) (h : w.ownsRow 0 65 4 (.slice (some ⟨g, 0, none⟩) L.length cap) L.length (flat L)) (hl : L.length ≤ 1000) (hi : i < L.length) :
    Calls Try.prog 30 #[.slice (some ⟨g, 0, none⟩) L.length cap, .int .i64 i, .int .i64 (i + 1)] w fun e w' => e = .returned (.slice (some ⟨g, 0, none⟩) (L.length - 1) cap) ∧ Only g w w' ∧ w'.ownsRow 0 65 4 (.slice (some ⟨g, 0, none⟩) (L.length - 1) cap) (L.length - 1) (flat (L.eraseIdx i)) := by
  obtain ⟨i0, hi0, hz0, hz1, hz2⟩ := info_parts lease_info
  have hfe := flat_erase L i hi
  have hlen := flat_len L
  have hdl : (flat (L.drop (i + 1))).length = (L.length - (i + 1)) * 4 := by rw [flat_len, List.length_drop]
  have htl : (flat (L.take i)).length = i * 4 := by rw [flat_len, List.length_take, show min i L.length = i from by omega]
  obtain ⟨cur, hg, hcs, hn, hm, hxs⟩ := row_block h
  have hcells : ∀ (k : Nat) (u : Value), (flat L)[k]? = some u → w.drew.cell? ⟨g, k, none⟩ = some u := fun k u hu => row_cell h hu
  obtain ⟨news, hnews⟩ : ∃ news, news = flat (L.drop (i + 1)) := ⟨_, rfl⟩
  have hnl : news.length = (L.length - (i + 1)) * 4 := by rw [hnews]; exact hdl
  have hsrc0 : ∀ t u, news[t]? = some u → w.drew.cell? ⟨g, (i + 1) * 4 + t, none⟩ = some u := by
    intro t u hu
    rw [hnews, ← flat_drop, List.getElem?_drop] at hu
    exact hcells _ _ hu
  obtain ⟨A, hA, hsrc⟩ : ∃ A : Addr, (if cap = i + 1 then some (⟨g, 0, none⟩ : Addr) else some ⟨g, (i + 1) * 4, none⟩) = some A ∧ Hid (∀ t u, news[t]? = some u → w.drew.cell? (A.add t) = some u) := by
    by_cases hc : cap = i + 1
    · refine ⟨⟨g, 0, none⟩, by simp [hc], fun t u hu => ?_⟩
      have h0 : news.length = 0 := by rw [hnl]; omega
      rw [List.length_eq_zero_iff.1 h0] at hu
      simp at hu
    · refine ⟨⟨g, (i + 1) * 4, none⟩, by simp [hc], fun t u hu => ?_⟩
      rw [at_add]
      exact hsrc0 t u hu
  have s2 : Hid (∀ u ∈ news, u.oneCell' = true) := by rw [hnews]; exact flat_cell1 _
  have s3 : Hid (∀ t, t < news.length → (w.drew.cell? ⟨g, 0 + i * 4 + t, none⟩).isSome = true ∧ w.drew.frozen? ⟨g, 0 + i * 4 + t, none⟩ = false) := by
    intro t ht
    rw [hnl] at ht
    rw [Nat.zero_add]
    exact row_there (w := w) hg hcs (by omega)
  obtain ⟨W1, hW1⟩ : ∃ W1, W1 = w.drew.setCells g (0 + i * 4) news := ⟨_, rfl⟩
  obtain ⟨cur1, hg1, hc1⟩ := heap_setCells news (0 + i * 4) w.drew cur hg
  rw [← hW1] at hg1
  have hcl : ∀ ty, (Builtin.clear_ #[58] ty #[.slice (some ⟨g, (L.length - 1) * 4, none⟩) (L.length - (L.length - 1)) (cap - (L.length - 1))]).run Try.prog W1 = .ok (.tuple #[]) (W1.setCells g ((L.length - 1) * 4) [.int .i64 0, .int .i64 0, .int .i64 0, .int .i64 0]) := by
    intro ty
    rw [show L.length - (L.length - 1) = 1 from by omega]
    have hv : (zeroValue 65).run Try.prog W1 = .ok (.agg #[.int .i64 0, .int .i64 0, .int .i64 0, .int .i64 0]) W1 := by kernel_rfl
    have hzc : (Builtin.zeroCells (Value.agg #[.int .i64 0, .int .i64 0, .int .i64 0, .int .i64 0]).cells 1).toList = [.int .i64 0, .int .i64 0, .int .i64 0, .int .i64 0] := by kernel_rfl
    have hst := run_storeCells_cells (P := Try.prog) g ((L.length - 1) * 4) [.int .i64 0, .int .i64 0, .int .i64 0, .int .i64 0] 0 W1 (by
      intro j hj
      simp at hj
      exact (row_there hg1 (hc1.trans hcs) (by omega)).1) (by
      intro j hj
      simp at hj
      exact (row_there hg1 (hc1.trans hcs) (by omega)).2) (by intro v hv'; simp at hv'; subst hv'; rfl)
    simp only [Nat.add_zero] at hst
    simp [Builtin.clear_, run_underlying Try.underlying58, hv, hzc, hst]
  have hO1 : Hid (Only g w W1) := by rw [hW1]; exact only_setCells g news _ _ ((Only.refl g w).drew)
  have hin : Hid (∀ j u, (flat (L.eraseIdx i))[j]? = some u → W1.cell? ⟨g, j, none⟩ = some u) := by
    intro j u hu
    rw [hfe] at hu
    rw [hW1]
    by_cases hj : j < i * 4
    · rw [List.getElem?_append_left (by omega), ← flat_take, List.getElem?_take_of_lt hj] at hu
      rw [World.cell?_setCells_out g news _ _ ⟨g, j, none⟩ (fun _ _ => .inl (by simpa using hj))]
      exact hcells _ _ hu
    · rw [List.getElem?_append_right (by omega), htl] at hu
      have hjl : j - i * 4 < news.length := by rw [hnews]; exact (List.getElem?_eq_some_iff.1 hu).1
      have hs3 := s3.out
      have := World.cell?_setCells_in g news (0 + i * 4) w.drew (fun t ht => (hs3 t ht).1) (j - i * 4) hjl
      rw [show 0 + i * 4 + (j - i * 4) = j from by omega] at this
      rw [this]
      rw [← hnews, List.getElem?_eq_getElem hjl] at hu
      exact hu
  have hfin : Hid ((W1.setCells g ((L.length - 1) * 4) [.int .i64 0, .int .i64 0, .int .i64 0, .int .i64 0]).ownsRow 0 65 4 (.slice (some ⟨g, 0, none⟩) (L.length - 1) cap) (L.length - 1) (flat (L.eraseIdx i))) := by
    obtain ⟨cur2, hg2, hc2⟩ := heap_setCells [.int .i64 0, .int .i64 0, .int .i64 0, .int .i64 0] ((L.length - 1) * 4) W1 cur1 hg1
    have hel : (flat (L.eraseIdx i)).length = (L.length - 1) * 4 := by rw [flat_len, List.length_eraseIdx, if_pos hi]
    refine row_of_cells hg2 (by rw [hc2, hc1, hcs]) (by omega) hm hel (fun j u hu => ?_)
    have hj : j < (L.length - 1) * 4 := by rw [← hel]; exact (List.getElem?_eq_some_iff.1 hu).1
    rw [World.cell?_setCells_out g _ _ _ ⟨g, j, none⟩ (fun _ _ => .inl hj)]
    exact hin.out j u hu
  have hO2 : Hid (Only g w (W1.setCells g ((L.length - 1) * 4) [.int .i64 0, .int .i64 0, .int .i64 0, .int .i64 0])) := only_setCells g _ _ _ hO1.out
  have hW : Hid (W1 = w.drew.setCells g (0 + i * 4) news) := hW1
  have s1 : Hid (news.length = (L.length - (i + 1)) * 4) := hnl
  have hic : i ≤ cap := by omega
  have hjc : i + 1 ≤ cap := by omega
  have HN := Lib.hid hn
  have e1 : Hid (i + (L.length - (i + 1)) = L.length - 1) := by show _ = _; omega
  clear hW1 hnl hnews hsrc0 hin hO1 hg1 hc1 hg hcs hm hxs hcells hfe hlen hdl htl h
  generalize L.length = n at *
  go_enter Try.func30, Try.ntmps30
  go_wp2_with fail
  have q1 : (0 : Int) ≤ (i : Int) + 1 := by omega
  have q2 : (i : Int) + 1 ≤ (n : Int) := by omega
  go_region_law (refine step_append_room rfl (.tmp 22) (.tmp 25) 58 rfl 65 i0 4 Try.underlying58 hi0 hz1 g 0 i cap (by simp [Act.eval, Act.put]) A (n - (i + 1)) (cap - (i + 1)) news (by simp [Act.eval, Act.put]) s1.out hsrc.out s2.out (by omega) s3.out ?_; rw [← hW.out])
  simp only [e1.out]
  have HCL := Lib.hid hcl
  have q3 : (0 : Int) ≤ ((n - 1 : Nat) : Int) := by omega
  have q4 : ((n - 1 : Nat) : Int) ≤ (n : Int) := by omega
  have q5 : ¬ cap = n - 1 := by omega
  have q6 : (n : Int) ≤ (cap : Int) := by have := HN.out; omega
  clear hcl
  have hcl := HCL.out
  go_wp2
  go_ret
  go_light
  exact ⟨rfl, hO2.out, hfin.out⟩
end Go.Proofs.Ytacchkokbibeaaa
