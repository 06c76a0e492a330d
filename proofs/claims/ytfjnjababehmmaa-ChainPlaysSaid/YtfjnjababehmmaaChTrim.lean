/- slices.Delete of the first versions; a chain: Trim. -/
import Derived.Test.YtfjnjababehmmaaChGet2
import Derived.Deep.RegionLaw
set_option linter.unusedSimpArgs false
set_option linter.unusedVariables false
namespace Go.Proofs.Ytfjnjababehmmaa
open Go.RowKit Go.Sort

set_option maxRecDepth 100000 in
set_option maxHeartbeats 4000000 in
theorem ver_delete (g cap n : Nat) (L : List Mv) (w : World) (h : w.ownsRow 0 28 6 (.slice (some ⟨g, 0, none⟩) L.length cap) L.length (rowV L)) (hl : L.length ≤ 1000000) (hn : n ≤ L.length) (n0 : 0 < n) :
    Calls Try.prog 45 #[.slice (some ⟨g, 0, none⟩) L.length cap, .int .i64 0, .int .i64 n] w fun e w' => e = .returned (.slice (some ⟨g, 0, none⟩) (L.length - n) cap) ∧ Only g w w' ∧ w'.ownsRow 0 28 6 (.slice (some ⟨g, 0, none⟩) (L.length - n) cap) (L.length - n) (rowV (L.drop n)) := by
  obtain ⟨i0, hi0, hz0, hz1, hz2⟩ := info_parts ver_info
  have hdl : (rowV (L.drop n)).length = (L.length - n) * 6 := by rw [rowV_len, List.length_drop]
  obtain ⟨cur, hg, hcs, hnc, hm, hxs⟩ := row_block h
  have hcells : ∀ (k : Nat) (u : Value), (rowV L)[k]? = some u → w.drew.cell? ⟨g, k, none⟩ = some u := fun k u hu => row_cell h hu
  obtain ⟨news, hnews⟩ : ∃ news, news = rowV (L.drop n) := ⟨_, rfl⟩
  have hnl : news.length = (L.length - n) * 6 := by rw [hnews]; exact hdl
  have hsrc0 : ∀ t u, news[t]? = some u → w.drew.cell? ⟨g, n * 6 + t, none⟩ = some u := by
    intro t u hu
    rw [hnews, ← rowV_drop, List.getElem?_drop] at hu
    exact hcells _ _ hu
  obtain ⟨A, hA, hsrc⟩ : ∃ A : Addr, (if cap = n then some (⟨g, 0, none⟩ : Addr) else some ⟨g, n * 6, none⟩) = some A ∧ Hid (∀ t u, news[t]? = some u → w.drew.cell? (A.add t) = some u) := by
    by_cases hc : cap = n
    · refine ⟨⟨g, 0, none⟩, by simp [hc], fun t u hu => ?_⟩
      have h0 : news.length = 0 := by rw [hnl]; omega
      rw [List.length_eq_zero_iff.1 h0] at hu
      simp at hu
    · refine ⟨⟨g, n * 6, none⟩, by simp [hc], fun t u hu => ?_⟩
      rw [at_add]
      exact hsrc0 t u hu
  have s2 : Hid (∀ u ∈ news, u.oneCell' = true) := by rw [hnews]; exact rowV_one1 _
  have s3 : Hid (∀ t, t < news.length → (w.drew.cell? ⟨g, 0 + 0 * 6 + t, none⟩).isSome = true ∧ w.drew.frozen? ⟨g, 0 + 0 * 6 + t, none⟩ = false) := by
    intro t ht
    rw [hnl] at ht
    rw [show 0 + 0 * 6 + t = t from by omega]
    exact row_there (w := w) hg hcs (by omega)
  obtain ⟨W1, hW1⟩ : ∃ W1, W1 = w.drew.setCells g (0 + 0 * 6) news := ⟨_, rfl⟩
  obtain ⟨cur1, hg1, hc1⟩ := heap_setCells news (0 + 0 * 6) w.drew cur hg
  rw [← hW1] at hg1
  obtain ⟨Z, hZ⟩ : ∃ Z, Z = (Builtin.zeroCells (Value.agg #[.int .i64 0, .int .i64 0, .int .i64 0, .slice none 0 0, .bool false, .int .i64 0]).cells n).toList := ⟨_, rfl⟩
  have hZl : Z.length = n * 6 := by rw [hZ, Array.length_toList, zero6]
  have hZ1 : ∀ u ∈ Z, u.oneCell' = true := by
    intro u hu
    rw [hZ] at hu
    simp [Builtin.zeroCells, Value.cells] at hu
    obtain ⟨j, hj, rfl⟩ := hu
    have h6 : j % 6 < 6 := Nat.mod_lt _ (by omega)
    match hq : j % 6, h6 with
    | 0, _ => rfl
    | 1, _ => rfl
    | 2, _ => rfl
    | 3, _ => rfl
    | 4, _ => rfl
    | 5, _ => rfl
  have hcl : ∀ ty, (Builtin.clear_ #[22] ty #[.slice (some ⟨g, (L.length - n) * 6, none⟩) (L.length - (L.length - n)) (cap - (L.length - n))]).run Try.prog W1 = .ok (.tuple #[]) (W1.setCells g ((L.length - n) * 6) Z) := by
    intro ty
    rw [show L.length - (L.length - n) = n from by omega]
    have hv : (zeroValue 28).run Try.prog W1 = .ok (.agg #[.int .i64 0, .int .i64 0, .int .i64 0, .slice none 0 0, .bool false, .int .i64 0]) W1 := by kernel_rfl
    have hst := run_storeCells_cells (P := Try.prog) g ((L.length - n) * 6) Z 0 W1 (by
      intro j hj
      exact (row_there hg1 (hc1.trans hcs) (by omega)).1) (by
      intro j hj
      exact (row_there hg1 (hc1.trans hcs) (by omega)).2) hZ1
    simp only [Nat.add_zero] at hst
    obtain ⟨q, hq⟩ : ∃ q, n = q + 1 := ⟨n - 1, by omega⟩
    subst hq
    simp [Builtin.clear_, run_underlying Try.underlying22, hv, ← hZ, hst]
  have hO1 : Hid (Only g w W1) := by rw [hW1]; exact only_setCells g news _ _ ((Only.refl g w).drew)
  have hin : Hid (∀ j u, (rowV (L.drop n))[j]? = some u → W1.cell? ⟨g, j, none⟩ = some u) := by
    intro j u hu
    rw [hW1]
    have hjl : j < news.length := by rw [hnews]; exact (List.getElem?_eq_some_iff.1 hu).1
    have hs3 := s3.out
    have := World.cell?_setCells_in g news (0 + 0 * 6) w.drew (fun t ht => (hs3 t ht).1) j hjl
    rw [show 0 + 0 * 6 + j = j from by omega] at this
    rw [show 0 + 0 * 6 = 0 from rfl] at this
    rw [show 0 + 0 * 6 = 0 from rfl, this]
    rw [← hnews, List.getElem?_eq_getElem hjl] at hu
    exact hu
  have hfin : Hid ((W1.setCells g ((L.length - n) * 6) Z).ownsRow 0 28 6 (.slice (some ⟨g, 0, none⟩) (L.length - n) cap) (L.length - n) (rowV (L.drop n))) := by
    obtain ⟨cur2, hg2, hc2⟩ := heap_setCells Z ((L.length - n) * 6) W1 cur1 hg1
    refine row_of_cells hg2 (by rw [hc2, hc1, hcs]) (by omega) hm hdl (fun j u hu => ?_)
    have hj : j < (L.length - n) * 6 := by rw [← hdl]; exact (List.getElem?_eq_some_iff.1 hu).1
    rw [World.cell?_setCells_out g _ _ _ ⟨g, j, none⟩ (fun _ _ => .inl hj)]
    exact hin.out j u hu
  have hO2 : Hid (Only g w (W1.setCells g ((L.length - n) * 6) Z)) := only_setCells g _ _ _ hO1.out
  have hW : Hid (W1 = w.drew.setCells g (0 + 0 * 6) news) := hW1
  have s1 : Hid (news.length = (L.length - n) * 6) := hnl
  have hnc' : n ≤ cap := by omega
  have HN := Lib.hid hnc
  have e1 : Hid (0 + (L.length - n) = L.length - n) := by show _ = _; omega
  have hne : ¬ ((0 : Int) = (n : Int)) := by omega
  have hne' : ((0 : Int) == (n : Int)) = false := beq_no hne
  clear hW1 hnl hnews hsrc0 hin hO1 hg1 hc1 hg hcs hnc hm hxs hcells hdl h hZ hZl hZ1
  generalize L.length = N at *
  go_enter Try.func45, Try.ntmps45
  go_wp2_with fail
  have q2 : (n : Int) ≤ (N : Int) := by omega
  go_region_law (refine step_append_room rfl (.tmp 22) (.tmp 25) 22 rfl 28 i0 6 Try.underlying22 hi0 hz1 g 0 0 cap (by simp [Act.eval, Act.put]) A (N - n) (cap - n) news (by simp [Act.eval, Act.put]) s1.out hsrc.out s2.out (by omega) s3.out ?_; rw [← hW.out])
  (try simp only [e1.out])
  have HCL := Lib.hid hcl
  have q3 : (0 : Int) ≤ ((N - n : Nat) : Int) := by omega
  have q4 : ((N - n : Nat) : Int) ≤ (N : Int) := by omega
  have q5 : ¬ cap = N - n := by have := HN.out; omega
  have q6 : (N : Int) ≤ (cap : Int) := by have := HN.out; omega
  clear hcl
  have hcl := HCL.out
  go_wp2
  go_ret
  go_light
  exact ⟨rfl, hO2.out, hfin.out⟩
set_option maxHeartbeats 1000000 in
theorem ver_delete0 (g cap N : Nat) (w : World) (hl : N ≤ cap) :
    Calls Try.prog 45 #[.slice (some ⟨g, 0, none⟩) N cap, .int .i64 0, .int .i64 0] w fun e w' => e = .returned (.slice (some ⟨g, 0, none⟩) N cap) ∧ w' = w := by
  have q1 : (N : Int) ≤ (cap : Int) := by omega
  go_enter Try.func45, Try.ntmps45
  go_wp2
  go_ret
  exact ⟨rfl, rfl⟩
end Go.Proofs.Ytfjnjababehmmaa
