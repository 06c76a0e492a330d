/- A chain: All; Of. -/
import Derived.Test.YtfjnjababehmmaaChGet2
import Derived.Deep.AppendLies
set_option linter.unusedSimpArgs false
set_option linter.unusedVariables false
namespace Go.Proofs.Ytfjnjababehmmaa
open Go.RowKit Go.Sort

abbrev Mv.sl (x : Mv) : Value := .slice x.A x.v.val.length x.c
/-- Copies of versions, in a row of the call's own, each value in a block of its own. -/
structure Cps (B : Nat) (w : World) (v : Value) (L : List Mv) : Prop where
  row : w.ownsRow B 28 6 v L.length (rowV L)
  own : ∀ x ∈ L, w.ownsRow B 5 1 x.sl x.v.val.length (bC x.v.val)
  ne : ∀ x ∈ L, ∀ i, x.sl.ownBlock = some i → v.ownBlock ≠ some i
  dis : ∀ (i j : Nat) x y, i < j → L[i]? = some x → L[j]? = some y → ∀ b, x.sl.ownBlock = some b → y.sl.ownBlock ≠ some b
theorem Cps.but {B : Nat} {w w' : World} {v : Value} {L : List Mv} {S : Nat → Prop} (h : Cps B w v L) (k : But S w w') (hs : ∀ i, B ≤ i → i < w.heap.size → ¬ S i) : Cps B w' v L :=
  ⟨k.row h.row (fun i hi => hs i (World.ownsRow.lt h.row i hi).1 (World.ownsRow.lt h.row i hi).2), fun x hx => k.row (h.own x hx) (fun i hi => hs i (World.ownsRow.lt (h.own x hx) i hi).1 (World.ownsRow.lt (h.own x hx) i hi).2), h.ne, h.dis⟩
theorem Cps.below {B : Nat} {w w' : World} {v : Value} {L : List Mv} (h : Cps B w v L) (k : Below w.heap.size w w') : Cps B w' v L := h.but (S := fun _ => False) (But.of_below k) (fun _ _ _ hf => hf)
theorem Cps.nil (B : Nat) (w : World) : Cps B w (.slice none 0 0) [] := ⟨World.ownsRow_nil _ _ _ _, fun _ h => (by cases h), fun _ h => (by cases h), fun i j x y _ h => by simp at h⟩
theorem Cps.app {B g cap : Nat} {w w1 w2 w3 : World} {v : Value} {L : List Mv} {m : Mv} (h : Cps B w v L) (hB : B ≤ w.heap.size) (h1 : Below w.heap.size w w1) (hm : w1.ownsRow w.heap.size 5 1 m.sl m.v.val.length (bC m.v.val)) (h2 : Below w1.heap.size w1 w2)
    (hg : w2.grownBy w3 v.ownBlock) (hat : v.ownBlock = some g ∨ g = w2.heap.size) (hr : w3.ownsRow B 28 6 (.slice (some ⟨g, 0, none⟩) (L.length + 1) cap) (L.length + 1) (rowV L ++ m.cs)) : Cps B w3 (.slice (some ⟨g, 0, none⟩) (L.length + 1) cap) (L ++ [m]) := by
  have hk := (h.below h1).below h2
  have hbt : But (fun i => v.ownBlock = some i) w2 w3 := But.of_grown hg (fun i hi => hi)
  have hvl : ∀ i, v.ownBlock = some i → i < w.heap.size := fun i hi => (World.ownsRow.lt h.row i hi).2
  have hml : ∀ i, m.sl.ownBlock = some i → w.heap.size ≤ i ∧ i < w1.heap.size := fun i hi => World.ownsRow.lt hm i hi
  have hnb : ∀ i, (Value.slice (some ⟨g, 0, none⟩) (L.length + 1) cap).ownBlock = some i → i = g := fun i hi => by simpa [Value.ownBlock] using hi.symm
  have z1 := h1.size
  have z2 := h2.size
  have hm2 := own_base hB (row_below hm h2)
  refine ⟨by rw [List.length_append, rowV_append, rowV_one]; exact hr, fun x hx => ?_, fun x hx i hi e => ?_, fun i j x y hij hx hy b hb e => ?_⟩
  · rcases List.mem_append.1 hx with q | q
    · exact hbt.row (hk.own x q) (fun i hi => hk.ne x q i hi)
    · rw [List.mem_singleton.1 q]
      exact hbt.row hm2 (fun i hi e => by have := (hml i hi).1; have := hvl i e; omega)
  · have eg := hnb i e
    subst eg
    rcases List.mem_append.1 hx with q | q
    · rcases hat with r | r
      · exact hk.ne x q _ hi r
      · have := (World.ownsRow.lt (hk.own x q) i hi).2; omega
    · rw [List.mem_singleton.1 q] at hi
      rcases hat with r | r
      · have := hvl _ r; have := (hml i hi).1; omega
      · have := (hml i hi).2; omega
  · have hyl : j < L.length + 1 := by have := (List.getElem?_eq_some_iff.1 hy).1; simpa using this
    by_cases hj : j < L.length
    · rw [List.getElem?_append_left hj] at hy
      rw [List.getElem?_append_left (by omega)] at hx
      exact hk.dis i j x y hij hx hy b hb e
    · obtain rfl : j = L.length := by omega
      rw [List.getElem?_append_right (by omega)] at hy
      simp at hy
      subst hy
      rw [List.getElem?_append_left (by omega)] at hx
      have := (World.ownsRow.lt (h.own x (List.mem_of_getElem? hx)) b hb).2
      have := (hml b e).1
      omega
def AllPost (L : List Mv) (w w' : World) (e : Ending) : Prop := ∃ v L', e = .returned v ∧ Cps w.heap.size w' v L' ∧ L'.map Mv.v = L.map Mv.v ∧ Below w.heap.size w w'
set_option maxRecDepth 100000 in
set_option maxHeartbeats 8000000 in
theorem ch_all (P : Nat → Prop) (b : Nat) (v : Value) (L : List Mv) (w : World) (h : Ch P w b v L) (hl : L.length ≤ 1000000) (hv : ∀ x ∈ L, x.v.val.length ≤ 100000) :
    Calls Try.prog 28 #[.pointer (some ⟨b, 0, none⟩)] w fun e w' => AllPost L w w' e := by
  obtain ⟨i0, hi0, hz0, hz1, hz2⟩ := info_parts ver_info
  obtain ⟨A0, cap0, rfl⟩ := h.shape
  have HH := Lib.hid h
  have HV := Lib.hid hv
  have c0 := h.c0
  have hsh : Hid (∀ k, k < L.length → ∃ g, A0 = some ⟨g, 0, none⟩) := Lib.hid (fun k hk => by
    obtain ⟨g, cap, e, _⟩ := row_shape h.row (by omega)
    injection e with e1
    exact ⟨g, e1⟩)
  have HL := Lib.hid hl
  have hln : (L.length : Int) ≤ 1000000 := by omega
  have HB0 : Hid (Below w.heap.size w w) := Lib.hid (Below.refl _ _)
  clear h hv hl
  go_enter Try.func28, Try.ntmps28
  go_wp2
  go_loopw [3, 13] (fun u i wr => ∃ (k : Nat) (L' : List Mv), k ≤ L.length ∧ i = .int .i64 k ∧ Cps w.heap.size wr u L' ∧ L'.map Mv.v = (L.take k).map Mv.v ∧ L'.length = k ∧ Below w.heap.size w wr) (fun _ i _ => L.length - (intOf i).toNat)
  case atStart => exact ⟨0, [], Nat.zero_le _, rfl, Cps.nil _ _, rfl, rfl, HB0.out⟩
  case round =>
    obtain ⟨k, L', hk, rfl, hcp, hmap, hlen, hB⟩ := hrel
    by_cases hlt : k < L.length
    · have lk : (k : Int) < (L.length : Int) := by omega
      obtain ⟨g, rfl⟩ := hsh.out k hlt
      have hx : L[k]? = some L[k] := List.getElem?_eq_getElem hlt
      have HMAP : Hid (∀ m : Mv, m.v = L[k].v → (L' ++ [m]).map Mv.v = (L.take (k + 1)).map Mv.v) := Lib.hid (fun m hm => by
        have hlt2 : k < (L.map Mv.v).length := by simpa using hlt
        rw [List.map_append, hmap, List.map_take, List.map_take, List.take_succ_eq_append_getElem hlt2]
        simp [hm])
      generalize L[k] = x at *
      have hxm := List.mem_of_getElem? hx
      have H1 := HH.out.below hB
      obtain ⟨q0, q1, q2, q3, q4, q5⟩ := H1.ver hx
      obtain ⟨Av, cv, rfl⟩ := row_shapeV hcp.row
      have hat := H1.ats x hxm
      have HCP := Lib.hid hcp
      have HB := Lib.hid hB
      have HLEN := Lib.hid hlen
      have hvl := HV.out x hxm
      obtain ⟨⟨ml, ct, vo, val, gn, tt⟩, A, cc⟩ := x
      have HBA : Hid (Below wr.heap.size wr (wr.alloc (verO ml ct vo A val.length cc gn tt))) := Lib.hid ((Below.refl _ _).alloc (Nat.le_refl _) _)
      have HC := Lib.hid (ch_copied ⟨⟨ml, ct, vo, val, gn, tt⟩, A, cc⟩ (wr.alloc (verO ml ct vo A val.length cc gn tt)) (hat.b.below HBA.out) hat.n hvl)
      clear hx hxm H1 hat hcp hB hmap hlt hvl
      subst hlen
      clear c0
      go_wp2_with (first | (go_at_call 36; refine HC.out.mono ?_; rintro e w2 ⟨A2, k2, rfl, ho2, hb2⟩; have HCP2 := Lib.hid ((HCP.out.below HBA.out).below hb2); have hrow := World.ownsRow.alloc HCP2.out.row (.cells #[.int .i64 ml, .int .i64 ct, .int .i64 vo, .slice A2 val.length k2, .bool gn, .int .i64 tt] 28); have hwz : w.heap.size ≤ w2.heap.size := (Nat.le_trans HB.out.size (Nat.le_trans HBA.out.size hb2.size)); have HO2 := Lib.hid ho2; have HB2 := Lib.hid hb2; clear ho2 hb2) | (at_builtin; refine wpList_append_lies _ rfl (.tmp 17) (.tmp 20) 22 rfl w.heap.size 28 i0 _ 6 64 Try.underlying22 hi0 hz0 hz1 hz2 rfl (by decide) (.slice Av L'.length cv) L'.length _ rfl hrow ⟨w2.heap.size, 0, none⟩ 1 1 [.int .i64 ml, .int .i64 ct, .int .i64 vo, .slice A2 val.length k2, .bool gn, .int .i64 tt] rfl rfl (World.news_of_block (cs := #[.int .i64 ml, .int .i64 ct, .int .i64 vo, .slice A2 val.length k2, .bool gn, .int .i64 tt]) (t := 28) (fr := (0, 0)) (heap_alloc_new w2 _)) (by simp [Value.oneCell']) (by omega) (by unfold maxLen; omega) (by omega) (by simp; omega) _ rfl ?_; intro g2 cap2 w5 hown5 hg5 hat5 hlt5))
      have hwz2 := HCP2.out.row
      have HNEW := Lib.hid (Cps.app (m := ⟨⟨ml, ct, vo, val, gn, tt⟩, A2, k2⟩) (HCP.out.below HBA.out) (Nat.le_trans HB.out.size HBA.out.size) HB2.out HO2.out ((Below.refl w2.heap.size w2).alloc (Nat.le_refl _) (.cells #[.int .i64 ml, .int .i64 ct, .int .i64 vo, .slice A2 val.length k2, .bool gn, .int .i64 tt] 28)) hg5 (hat5.imp_right (fun e => by simp at e ⊢; omega)) hown5)
      have HBF := Lib.hid ((((HB.out.trans (HBA.out.mono HB.out.size)).trans (HB2.out.mono (Nat.le_trans HB.out.size HBA.out.size))).alloc hwz (.cells #[.int .i64 ml, .int .i64 ct, .int .i64 vo, .slice A2 val.length k2, .bool gn, .int .i64 tt] 28)).grown hg5 (by simp; omega) (fun i hi => (World.ownsRow.lt hrow i hi).1))
      clear hown5 hg5 hat5 hlt5 hrow hwz2
      go_roundw
      case rel => exact ⟨L'.length + 1, L' ++ [⟨⟨ml, ct, vo, val, gn, tt⟩, A2, k2⟩], by omega, by go_num, HNEW.out, HMAP.out _ rfl, by simp, HBF.out⟩
      case measure => simp [intOf]; omega
    · obtain rfl : k = L.length := by omega
      have HCP := Lib.hid hcp
      have HB := Lib.hid hB
      have hm : L'.map Mv.v = L.map Mv.v := by rw [hmap, List.take_length]
      have HM := Lib.hid hm
      clear hcp hB hmap hlen hm c0 hlt
      go_wp2
      go_ret
      exact ⟨_, L', rfl, HCP.out, HM.out, HB.out⟩
end Go.Proofs.Ytfjnjababehmmaa
