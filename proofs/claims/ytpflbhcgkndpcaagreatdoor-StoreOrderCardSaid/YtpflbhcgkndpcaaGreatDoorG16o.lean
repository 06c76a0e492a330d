/- slices.Insert of one version, wherever, with room and without. -/
import Derived.Test.YtpflbhcgkndpcaaGreatDoorVsRow
import Derived.Test.YtpflbhcgkndpcaaGreatDoorRowSet
import Derived.Deep.AppendLies
import Derived.Deep.RegionLaw
import Derived.Lib.Overlaps
import Derived.Lib.AppendZerosOnto
/- slices.Insert of one version. -/
set_option linter.unusedSimpArgs false
set_option linter.unusedVariables false
namespace Go.Proofs.YtpflbhcgkndpcaaGreatDoor
open Go.RowKit

/-- copy of k versions, cells alone. -/
theorem run_copy6 (w : World) (ty : TypeId) (b o dLen dCap : Nat) (a : Addr) (sLen sCap k : Nat) (cs : List Value) (hn : Nat.min sLen dLen = k) (hl : cs.length = k * 6)
    (hsrc : ∀ j v, cs[j]? = some v → w.cell? (a.add j) = some v) (hc : ∀ j, j < cs.length → (w.cell? ⟨b, o + j, none⟩).isSome = true) (hf : ∀ j, j < cs.length → w.frozen? ⟨b, o + j, none⟩ = false) (h1 : ∀ v ∈ cs, v.oneCell' = true) :
    (Builtin.copy_ #[171, 171] ty #[.slice (some ⟨b, o, none⟩) dLen dCap, .slice (some a) sLen sCap]).run Tryz.prog w = .ok (goInt k) (w.setCells b o cs) := by
  obtain ⟨i0, hi0, hz0, hz1, hz2⟩ := info_parts ver_info
  have hld := run_loadCells_list (P := Tryz.prog) w a cs hsrc
  rw [hl] at hld
  have hst := run_storeCells_cells (P := Tryz.prog) b o cs 0 w (by simpa using hc) (by simpa using hf) h1
  simp [Builtin.copy_, run_underlying Tryz.underlying171, Builtin.lenOf, Builtin.firstCells, sizeOf, typeInfo, hi0, hz1, hn, hld, hst]
theorem copy_step {ops : Array Oper} {rest : List Oper} {w : World} {o : Oper} {a : Act} {Q : Exit → Act → World → Prop} (hgd : o.guard = none) (d s : Operand) (t t' : TypeId)
    (ho : o.op = .call { callee := .builtin .copy, args := #[d, s], argTypes := #[t, t'] }) (v u : Value) (hd : a.eval d = v) (hs : a.eval s = u) {v' : Value} {w' : World}
    (hr : (Builtin.copy_ #[t, t'] o.type #[v, u]).run Tryz.prog w = .ok v' w') (h : wpList Tryz.prog ops Q rest (a.put o.dst v') w') : wpList Tryz.prog ops Q (o :: rest) a w := by
  refine wpList_plain hgd fun K hK => ?_
  unfold Oper.wp
  simp [execOp, ho, resolve, invoke, builtin, hd, hs, hr, Result.andThen]
  exact hK _ _ h
theorem copy_draw {ops : Array Oper} {o : Oper} {a : Act} {w : World} {K : Act → World → Prop} {Q : Exit → Act → World → Prop} {E : Prop}
    (hg : o.guard = none) (d x : Operand) (dT sT : TypeId) (hop : o.op = Op.call { callee := Callee.builtin Builtin.copy, args := #[d, x], argTypes := #[dT, sT] })
    (v u : Value) (hd : a.eval d = v) (hx : a.eval x = u) {v' : Value} {w' : World} (hr : (Builtin.copy_ #[dT, sT] o.type #[v, u]).run Tryz.prog w = .ok v' w') (hK : K (a.put o.dst v') w') :
    if Region.wanted o (yielded ops a.tmps) = true then Oper.wp Tryz.prog o a w K Q else E := by
  have hw : Region.wanted o (yielded ops a.tmps) = true := by simp [Region.wanted, hg]
  rw [if_pos hw]
  unfold Oper.wp
  simp [execOp, hop, resolve, invoke, builtin, hd, hx, hr, Result.andThen]
  exact hK
theorem set_drew (b : Nat) : ∀ (vs : List Value) (o : Nat) (w : World), (w.setCells b o vs).drew = w.drew.setCells b o vs
  | [], _, _ => rfl
  | v :: r, o, w => by rw [World.setCells, World.setCells, set_drew b r]; rfl
theorem set_some (b : Nat) (vs : List Value) (o : Nat) (w : World) (h : ∀ j, j < vs.length → (w.cell? ⟨b, o + j, none⟩).isSome = true) (k : Nat) (hk : (w.cell? ⟨b, k, none⟩).isSome = true) : ((w.setCells b o vs).cell? ⟨b, k, none⟩).isSome = true := by
  by_cases hin : o ≤ k ∧ k < o + vs.length
  · have := World.cell?_setCells_in b vs o w h (k - o) (by omega)
    rw [show o + (k - o) = k by omega] at this
    rw [this]; rfl
  · rw [World.cell?_setCells_out b vs o w ⟨b, k, none⟩ (fun _ _ => by show k < o ∨ o + vs.length ≤ k; omega)]
    exact hk
/-- The cells of a row into which one was put. -/
theorem rowV_put {L : List Mv} {i : Nat} {m : Mv} (hi : i ≤ L.length) {W0 W1 W2 : World} {g : Nat} (h0 : ∀ j u, (rowV (L.take i))[j]? = some u → W0.cell? ⟨g, j, none⟩ = some u)
    (hs1 : ∀ j, j < (L.length + 1) * 6 → (W0.cell? ⟨g, j, none⟩).isSome = true)
    (e1 : W1 = W0.setCells g ((i + 1) * 6) (rowV (L.drop i))) (e2 : W2 = W1.setCells g (i * 6) m.cs) :
    ∀ j u, (rowV (L.take i ++ m :: L.drop i))[j]? = some u → W2.cell? ⟨g, j, none⟩ = some u := by
  intro j u hu
  have hm6 : m.cs.length = 6 := rfl
  have hdl : (rowV (L.drop i)).length = (L.length - i) * 6 := by rw [rowV_len, List.length_drop]
  have htl : (rowV (L.take i)).length = i * 6 := by rw [rowV_len, List.length_take, show min i L.length = i from by omega]
  have hsome1 : ∀ j, j < (L.length + 1) * 6 → (W1.cell? ⟨g, j, none⟩).isSome = true := fun j hj => by
    rw [e1]
    exact set_some g _ _ _ (fun t ht => hs1 _ (by omega)) _ (hs1 j hj)
  rw [rowV_append, rowV_cons] at hu
  rw [e2]
  by_cases q1 : j < i * 6
  · rw [List.getElem?_append_left (by omega)] at hu
    rw [World.cell?_setCells_out g _ _ _ ⟨g, j, none⟩ (fun _ _ => .inl q1), e1, World.cell?_setCells_out g _ _ _ ⟨g, j, none⟩ (fun _ _ => .inl (by show j < _; omega))]
    exact h0 j u hu
  · rw [List.getElem?_append_right (by omega), htl] at hu
    by_cases q2 : j < (i + 1) * 6
    · rw [List.getElem?_append_left (by omega)] at hu
      have := World.cell?_setCells_in g m.cs (i * 6) W1 (fun t ht => hsome1 _ (by omega)) (j - i * 6) (by omega)
      rw [show i * 6 + (j - i * 6) = j from by omega] at this
      rw [this, ← List.getElem?_eq_getElem]
      exact hu
    · rw [List.getElem?_append_right (by omega), hm6] at hu
      rw [World.cell?_setCells_out g _ _ _ ⟨g, j, none⟩ (fun _ _ => .inr (by show _ ≤ j; omega)), e1]
      have hj2 : j - i * 6 - 6 < (rowV (L.drop i)).length := (List.getElem?_eq_some_iff.1 hu).1
      have := World.cell?_setCells_in g (rowV (L.drop i)) ((i + 1) * 6) W0 (fun t ht => hs1 _ (by omega)) (j - i * 6 - 6) hj2
      rw [show (i + 1) * 6 + (j - i * 6 - 6) = j from by omega] at this
      rw [this, ← List.getElem?_eq_getElem]
      exact hu
/-- A block of one version. -/
def One (w : World) (vb : Nat) (m : Mv) : Prop := w.heap[vb]? = some (.cells m.cs.toArray 44 (0, 0))
theorem One.cell {w : World} {vb : Nat} {m : Mv} (h : One w vb m) : ∀ j u, m.cs[j]? = some u → w.cell? ⟨vb, j, none⟩ = some u := fun j u hu => by
  rw [cell_of_row w vb j _ _ _ h]
  simpa using hu
theorem One.lt {w : World} {vb : Nat} {m : Mv} (h : One w vb m) : vb < w.heap.size := (Array.getElem?_eq_some_iff.1 h).1
set_option maxRecDepth 100000 in
set_option maxHeartbeats 4000000 in
theorem ins_shift (g cap n i vb vc : Nat) (L : List Mv) (m : Mv) (w : World) (h : w.ownsRow 0 44 6 (.slice (some ⟨g, 0, none⟩) n cap) n (rowV L)) (hn : L.length = n) (hi : i < n) (hroom : n + 1 ≤ cap) (hv : One w vb m) (hvg : vb ≠ g) :
    Calls Tryz.prog 164 #[.slice (some ⟨g, 0, none⟩) n cap, .int .i64 i, .slice (some ⟨vb, 0, none⟩) 1 vc] w fun e w' =>
      e = .returned (.slice (some ⟨g, 0, none⟩) (n + 1) cap) ∧ Only g w w' ∧ w'.ownsRow 0 44 6 (.slice (some ⟨g, 0, none⟩) (n + 1) cap) (n + 1) (rowV (L.take i ++ m :: L.drop i)) := by
  subst hn
  obtain ⟨cur, hg, hcs, hnc, hm, hxs⟩ := row_block h
  have hgl : g < w.heap.size := (Array.getElem?_eq_some_iff.1 hg).1
  have hthere : ∀ (W : World), (∀ x, W.cell? x = w.cell? x) → ∀ j, j < cap * 6 → (W.cell? ⟨g, j, none⟩).isSome = true := fun W hW j hj => by rw [hW]; exact (row_there hg hcs hj).1
  have hfz : ∀ j, w.frozen? ⟨g, j, none⟩ = false := fun j => row_frozen h j
  have hcells : ∀ (k : Nat) (u : Value), (rowV L)[k]? = some u → w.cell? ⟨g, k, none⟩ = some u := fun k u hu => row_cell h hu
  have hdl : (rowV (L.drop i)).length = (L.length - i) * 6 := by rw [rowV_len, List.length_drop]
  have hdrop : ∀ j v, (rowV (L.drop i))[j]? = some v → w.cell? ⟨g, i * 6 + j, none⟩ = some v := fun j v hj => by
    rw [← rowV_drop, List.getElem?_drop] at hj
    exact hcells _ _ hj
  have hov : ∀ lb cb, (callFunc 211 #[.slice (some ⟨vb, 0, none⟩) 1 vc, .slice (some ⟨g, (i + 1) * 6, none⟩) lb cb]).run Tryz.prog w = .ok (.value (.bool false)) w := fun lb cb => by
    rw [run_callFunc_extern Tryz.func211 (by kernel_rfl) (by kernel_rfl) (by kernel_rfl) (e := Extern.SlicesOverlaps.overlaps #[171, 171] #[4]) (by kernel_rfl),
      Lib.run_overlaps_apart w 171 4 44 Tryz.underlying171 6 (fun w => by kernel_rfl) ⟨vb, 0, none⟩ ⟨g, (i + 1) * 6, none⟩ 1 vc lb cb hvg 44 44 6 (cap * 6) (by
        have hv' : w.heap[vb]? = some (.cells m.cs.toArray 44 (0, 0)) := hv
        simp only [World.shape?, hv']; rfl) (by simp only [World.shape?, hg, hcs]) (by omega) (by
        have hv' : w.heap[vb]? = some (.cells m.cs.toArray 44 (0, 0)) := hv
        simp [World.frozen?, hv']) (by
        have hv' : w.heap[vb]? = some (.cells m.cs.toArray 44 (0, 0)) := hv
        simp [World.frozen?, hv'])]
    rfl
  have hcp1 : ∀ ty dc sc, (Builtin.copy_ #[171, 171] ty #[.slice (some ⟨g, (i + 1) * 6, none⟩) (L.length - i) dc, .slice (some ⟨g, i * 6, none⟩) (L.length + 1 - i) sc]).run Tryz.prog w.drew = .ok (goInt (L.length - i : Nat)) (w.drew.setCells g ((i + 1) * 6) (rowV (L.drop i))) := fun ty dc sc =>
    run_copy6 w.drew ty g ((i + 1) * 6) (L.length - i) dc ⟨g, i * 6, none⟩ (L.length + 1 - i) sc (L.length - i) (rowV (L.drop i)) (by simp only [Nat.min_def]; split <;> omega) hdl
      (fun j v hj => by rw [at_add]; exact hdrop j v hj) (fun j hj => hthere w.drew (fun _ => rfl) _ (by omega)) (fun j _ => hfz _) (rowV_one1 _)
  obtain ⟨W1, hW1⟩ : ∃ W1, W1 = w.drew.setCells g ((i + 1) * 6) (rowV (L.drop i)) := ⟨_, rfl⟩
  have hs1 : ∀ j, j < (L.length + 1) * 6 → (W1.cell? ⟨g, j, none⟩).isSome = true := fun j hj => by
    rw [hW1]
    exact set_some g _ _ _ (fun t ht => hthere w.drew (fun _ => rfl) _ (by omega)) _ (hthere w.drew (fun _ => rfl) _ (by omega))
  have hcp2 : ∀ ty dc, (Builtin.copy_ #[171, 171] ty #[.slice (some ⟨g, i * 6, none⟩) (L.length + 1 - i) dc, .slice (some ⟨vb, 0, none⟩) 1 vc]).run Tryz.prog W1 = .ok (goInt (1 : Nat)) (W1.setCells g (i * 6) m.cs) := fun ty dc =>
    run_copy6 W1 ty g (i * 6) (L.length + 1 - i) dc ⟨vb, 0, none⟩ 1 vc 1 m.cs (by simp only [Nat.min_def]; split <;> omega) rfl
      (fun j v hj => by
        rw [at_add, hW1, World.cell?_setCells_out g _ _ _ _ (fun h _ => absurd h hvg), Nat.zero_add]
        exact hv.cell j v hj) (fun j hj => hs1 _ (by have : m.cs.length = 6 := rfl; omega)) (fun j _ => by rw [hW1, World.frozen?_setCells]; exact hfz _) (mv_cell1 m)
  obtain ⟨W2, hW2⟩ : ∃ W2, W2 = W1.setCells g (i * 6) m.cs := ⟨_, rfl⟩
  have hO : Hid (Only g w W2) := by
    show Only g w W2
    rw [hW2]
    exact only_setCells g _ _ _ (by rw [hW1]; exact only_setCells g _ _ _ ((Only.refl g w).drew))
  have hR : Hid (W2.ownsRow 0 44 6 (.slice (some ⟨g, 0, none⟩) (L.length + 1) cap) (L.length + 1) (rowV (L.take i ++ m :: L.drop i))) := by
    obtain ⟨c1, hg1, hc1⟩ := heap_setCells (g := g) (rowV (L.drop i)) ((i + 1) * 6) w.drew cur hg
    rw [← hW1] at hg1
    obtain ⟨c2, hg2, hc2⟩ := heap_setCells (g := g) m.cs (i * 6) W1 c1 hg1
    rw [← hW2] at hg2
    refine row_of_cells hg2 (by rw [hc2, hc1, hcs]) hroom hm (by rw [rowV_len]; simp; omega) ?_
    refine rowV_put (by omega) (W0 := w.drew) (fun j u hu => ?_) (fun j hj => hthere w.drew (fun _ => rfl) _ (by omega)) hW1 hW2
    rw [← rowV_take] at hu
    rw [List.getElem?_take] at hu
    split at hu
    · exact hcells j u hu
    · cases hu
  rw [← hW1] at hcp1
  rw [← hW2] at hcp2
  have HCAP : Hid (L.length + 1 ≤ cap ∧ cap ≤ maxLen) := Lib.hid ⟨hroom, hm⟩
  have hz2 : ¬ ((i : Int) = (L.length : Int)) := by omega
  have hw1 : IntKind.i64.wrap ((i : Int) + 1) = (i : Int) + 1 := by have := hm; unfold maxLen at this; exact IntWalk.i64_in _ (by omega)
  have hw2 : IntKind.i64.wrap ((L.length : Int) + 1) = (L.length : Int) + 1 := by have := hm; unfold maxLen at this; exact IntWalk.i64_in _ (by omega)
  have hb1 : (0 : Int) ≤ (i : Int) + 1 := by omega
  have hin : i ≤ L.length := by omega
  have htn : ((i : Int) + 1).toNat = i + 1 := by omega
  have htn2 : ((L.length : Int) + 1).toNat = L.length + 1 := by omega
  have hb2 : ¬ (cap = i + 1) := by omega
  have hb4 : ¬ (cap = i) := by omega
  have hb5 : ¬ ((cap : Int) < (L.length : Int) + 1) := by omega
  have hb6 : (L.length : Int) + 1 ≤ (cap : Int) := by omega
  have hb7 : (i : Int) + 1 ≤ (L.length : Int) + 1 := by omega
  have hb8 : (i : Int) ≤ (L.length : Int) + 1 := by omega
  clear hW1 hW2 hs1 hdl hdrop hcells hfz hthere hg hcs hnc hm hxs h hv hroom
  generalize L.length = n at *
  go_enter Tryz.func164, Tryz.ntmps164
  go_wp2_with (simp only [hov])
  go_region_law (refine copy_draw rfl _ _ 171 171 rfl _ _ (by simp [Act.eval, Act.put]) (by simp [Act.eval, Act.put]) (hcp1 _ _ _) ?_)
  go_wp2_with (at_builtin; refine copy_step rfl _ _ 171 171 rfl _ _ rfl rfl (hcp2 _ _) ?_)
  go_ret
  exact ⟨rfl, hO.out, hR.out⟩
end Go.Proofs.YtpflbhcgkndpcaaGreatDoor

/- slices.Insert of one version, wherever, with room and without. -/
namespace Go.Proofs.YtpflbhcgkndpcaaGreatDoor
open Go.RowKit

set_option maxRecDepth 100000 in
set_option maxHeartbeats 4000000 in
theorem ins_end (v : Value) (n vb vc : Nat) (L : List Mv) (m : Mv) (w : World) (h : w.ownsRow 0 44 6 v n (rowV L)) (hn : L.length = n) (hl : n ≤ 1000000) (hv : One w vb m) :
    Calls Tryz.prog 164 #[v, .int .i64 n, .slice (some ⟨vb, 0, none⟩) 1 vc] w fun e w' =>
      ∃ g cap, e = .returned (.slice (some ⟨g, 0, none⟩) (n + 1) cap) ∧ w.grownBy w' v.ownBlock ∧ (v.ownBlock = some g ∨ g = w.heap.size) ∧ w'.ownsRow 0 44 6 (.slice (some ⟨g, 0, none⟩) (n + 1) cap) (n + 1) (rowV (L ++ [m])) := by
  obtain ⟨i0, hi0, hz0, hz1, hz2⟩ := info_parts ver_info
  obtain ⟨A, c, rfl⟩ := row_shapeV h
  have hnews : Hid _ := Lib.hid (World.news_of_block (cs := m.cs.toArray) (t := 44) (fr := (0, 0)) hv)
  have h6 : m.cs.length = 1 * 6 := rfl
  have h1 := mv_cell1 m
  have HR := Lib.hid h
  have e1 : rowV (L ++ [m]) = rowV L ++ m.cs := by rw [rowV_append, rowV_one]
  rw [e1]
  generalize m.cs = ms at *
  generalize rowV L = xs at *
  have h7 : A = none → n = 0 ∧ c = 0 := fun e => by
    subst e
    rcases h.2 with ⟨h, h0⟩ | ⟨g', cap', cur, h, _⟩
    · injection h with a1 a2 a3
      exact ⟨h0, a3⟩
    · cases h
  have hcn : n ≤ c := by
    rcases h.2 with ⟨h, h0⟩ | ⟨g', cap', cur, h, _, _, h2, _⟩
    · omega
    · injection h with a1 a2 a3
      omega
  clear h hv hn e1
  cases A with
  | none =>
    obtain ⟨rfl, rfl⟩ := h7 rfl
    go_enter Tryz.func164, Tryz.ntmps164
    go_wp2_with (at_builtin; refine wpList_append_lies _ rfl (.tmp 23) (.tmp 24) 171 rfl 0 44 i0 _ 6 64 Tryz.underlying171 hi0 hz0 hz1 hz2 rfl (by decide) (.slice none 0 0) 0 xs rfl HR.out ⟨vb, 0, none⟩ 1 vc ms rfl h6 hnews.out h1 (by omega) (by unfold maxLen; omega) (by omega) (by omega) _ rfl ?_; intro g cap w5 hown hgr hat hlt)
    go_ret
    exact ⟨g, cap, rfl, hgr, hat, hown⟩
  | some a =>
    clear h7
    go_enter Tryz.func164, Tryz.ntmps164
    go_wp2_with (at_builtin; refine wpList_append_lies _ rfl (.tmp 23) (.tmp 24) 171 rfl 0 44 i0 _ 6 64 Tryz.underlying171 hi0 hz0 hz1 hz2 rfl (by decide) (.slice (some a) n c) n xs rfl HR.out ⟨vb, 0, none⟩ 1 vc ms rfl h6 hnews.out h1 (by omega) (by unfold maxLen; omega) (by omega) (by omega) _ rfl ?_; intro g cap w5 hown hgr hat hlt)
    all_goals
      go_ret
      exact ⟨g, cap, rfl, hgr, hat, hown⟩
theorem cell_drew (w : World) (x : Addr) : w.drew.cell? x = w.cell? x := rfl
theorem frozen_drew (w : World) (x : Addr) : w.drew.frozen? x = w.frozen? x := rfl
theorem alloc_drew (w : World) (o : Obj) : (w.alloc o).drew = w.drew.alloc o := rfl
theorem heap_drew (w : World) : w.drew.heap = w.heap := rfl
theorem zero6 (k : Nat) : (Builtin.zeroCells (Value.agg #[.int .i64 0, .int .i64 0, .int .i64 0, .slice none 0 0, .bool false, .int .i64 0]).cells k).size = k * 6 := by
  simp [Builtin.zeroCells, Value.cells]
set_option maxRecDepth 100000 in
set_option maxHeartbeats 4000000 in
theorem ins_grow (g n i vb vc : Nat) (L : List Mv) (m : Mv) (w : World) (h : w.ownsRow 0 44 6 (.slice (some ⟨g, 0, none⟩) n n) n (rowV L)) (hn : L.length = n) (hl : n ≤ 1000000) (hi : i < n) (hv : One w vb m) :
    Calls Tryz.prog 164 #[.slice (some ⟨g, 0, none⟩) n n, .int .i64 i, .slice (some ⟨vb, 0, none⟩) 1 vc] w fun e w' =>
      ∃ cap, e = .returned (.slice (some ⟨w.heap.size, 0, none⟩) (n + 1) cap) ∧ Below w.heap.size w w' ∧ w'.ownsRow 0 44 6 (.slice (some ⟨w.heap.size, 0, none⟩) (n + 1) cap) (n + 1) (rowV (L.take i ++ m :: L.drop i)) := by
  obtain ⟨i0, hi0, hz0, hz1, hz2⟩ := info_parts ver_info
  subst hn
  obtain ⟨cur, hg, hcs, hnc, hm, hxs⟩ := row_block h
  have hgl : g < w.heap.size := (Array.getElem?_eq_some_iff.1 hg).1
  have hvl : vb < w.heap.size := hv.lt
  have hcells : ∀ (k : Nat) (u : Value), (rowV L)[k]? = some u → w.cell? ⟨g, k, none⟩ = some u := fun k u hu => row_cell h hu
  have hdl : (rowV (L.drop i)).length = (L.length - i) * 6 := by rw [rowV_len, List.length_drop]
  have htl : (rowV (L.take i)).length = i * 6 := by rw [rowV_len, List.length_take, show min i L.length = i from by omega]
  have hdrop : ∀ j v, (rowV (L.drop i))[j]? = some v → w.cell? ⟨g, i * 6 + j, none⟩ = some v := fun j v hj => by
    rw [← rowV_drop, List.getElem?_drop] at hj
    exact hcells _ _ hj
  have htake : ∀ j v, (rowV (L.take i))[j]? = some v → w.cell? ⟨g, j, none⟩ = some v := fun j v hj => by
    rw [← rowV_take, List.getElem?_take] at hj
    split at hj
    · exact hcells j v hj
    · cases hj
  have hold : (Builtin.firstCells i0.size i (.slice (some ⟨g, 0, none⟩) i L.length)).run Tryz.prog w.drew = .ok (rowV (L.take i)).toArray w.drew := by
    have hld := run_loadCells_list (P := Tryz.prog) w.drew ⟨g, 0, none⟩ (rowV (L.take i)) (fun j v hj => by rw [at_add, Nat.zero_add]; exact htake j v hj)
    rw [htl] at hld
    rw [hz1]
    simp [Builtin.firstCells, hld]
  have hki : i + (L.length + 1 - i) = L.length + 1 := by omega
  obtain ⟨G, hG⟩ : ∃ G, G = grownCap w (L.length + 1) L.length 44 := ⟨_, rfl⟩
  obtain ⟨ROW, hROW⟩ : ∃ ROW : Array Value, ROW = (rowV (L.take i)).toArray ++ Builtin.zeroCells (Value.agg #[.int .i64 0, .int .i64 0, .int .i64 0, .slice none 0 0, .bool false, .int .i64 0]).cells (L.length + 1 - i) ++ Builtin.zeroCells (Value.agg #[.int .i64 0, .int .i64 0, .int .i64 0, .slice none 0 0, .bool false, .int .i64 0]).cells (G - (L.length + 1)) := ⟨_, rfl⟩
  have hGn : L.length + 1 ≤ G := by rw [hG]; exact grownCap_ge w _ _ _
  have hGm : G ≤ maxLen := by rw [hG]; exact grownCap_le_maxLen w _ _ _ (by unfold maxLen; omega)
  have hRs : ROW.size = G * 6 := by
    rw [hROW, Array.size_append, Array.size_append, zero6, zero6]
    simp only [List.size_toArray]
    omega
  have hrz : ∀ ty, (Builtin.append_ #[171, 3] ty #[.slice (some ⟨g, 0, none⟩) i L.length, .int .i64 ((L.length : Int) + 1 - (i : Int))]).run Tryz.prog w =
      .ok (.slice (some ⟨w.heap.size, 0, none⟩) (L.length + 1) G) (w.drew.alloc (.cells ROW 44)) := fun ty => by
    have h := Lib.run_append_grow_zeros (P := Tryz.prog) w 171 3 ty 44 i0 _ .i64 .i64 Tryz.underlying171 Tryz.underlying3 hi0 hz0 (some ⟨g, 0, none⟩) i L.length (rowV (L.take i)) hold (L.length + 1 - i) (by omega) (by omega) (by omega) (by omega) (by rw [hz2]; omega) (by rw [hz2, hki]; exact growslice_fits (by omega) (by omega))
    rw [hki] at h
    rw [show (L.length : Int) + 1 - (i : Int) = ((L.length + 1 - i : Nat) : Int) from by omega, hROW, hG]
    exact h
  obtain ⟨W0, hW0⟩ : ∃ W0, W0 = w.drew.alloc (.cells ROW 44) := ⟨_, rfl⟩
  rw [← hW0] at hrz
  have hN : ∀ j, j < (L.length + 1) * 6 → (W0.cell? ⟨w.heap.size, j, none⟩).isSome = true := fun j hj => by
    rw [hW0, World.cell?_alloc_at (w := w.drew) ROW _ w.heap.size j rfl, Array.getElem?_eq_getElem (by omega)]; rfl
  have hNf : ∀ j, W0.frozen? ⟨w.heap.size, j, none⟩ = false := fun j => by rw [hW0]; exact World.frozen?_alloc_at (w := w.drew) ROW _ w.heap.size j rfl
  have hOb : ∀ b j v, b < w.heap.size → w.cell? ⟨b, j, none⟩ = some v → W0.cell? ⟨b, j, none⟩ = some v := fun b j v hb h => by rw [hW0, World.cell?_alloc_past (w := w.drew) _ b j hb]; exact h
  have hN0 : ∀ j v, (rowV (L.take i))[j]? = some v → W0.cell? ⟨w.heap.size, j, none⟩ = some v := fun j v hj => by
    have hjl := (List.getElem?_eq_some_iff.1 hj).1
    rw [hW0, World.cell?_alloc_at (w := w.drew) ROW _ w.heap.size j rfl, hROW, Array.append_assoc, Array.getElem?_append_left (by simpa using hjl)]
    simpa using hj
  -- the first copy: the version; the second one: what stood from i on
  have hcpA : ∀ (W : World), (∀ x, W.cell? x = W0.cell? x) → (∀ x, W.frozen? x = W0.frozen? x) → ∀ ty dc, (Builtin.copy_ #[171, 171] ty #[.slice (some ⟨w.heap.size, i * 6, none⟩) (L.length + 1 - i) dc, .slice (some ⟨vb, 0, none⟩) 1 vc]).run Tryz.prog W = .ok (goInt (1 : Nat)) (W.setCells w.heap.size (i * 6) m.cs) := fun W hWc hWf ty dc =>
    run_copy6 W ty w.heap.size (i * 6) (L.length + 1 - i) dc ⟨vb, 0, none⟩ 1 vc 1 m.cs (by simp only [Nat.min_def]; split <;> omega) rfl
      (fun j v hj => by rw [at_add, hWc, Nat.zero_add]; exact hOb _ _ _ hvl (hv.cell j v hj)) (fun j hj => by rw [hWc]; exact hN _ (by have : m.cs.length = 6 := rfl; omega)) (fun j _ => by rw [hWf]; exact hNf _) (mv_cell1 m)
  have hcpB : ∀ (W : World), (∀ x, W.cell? x = (W0.setCells w.heap.size (i * 6) m.cs).cell? x) → (∀ x, W.frozen? x = (W0.setCells w.heap.size (i * 6) m.cs).frozen? x) → ∀ ty dc sc, (Builtin.copy_ #[171, 171] ty #[.slice (some ⟨w.heap.size, (i + 1) * 6, none⟩) (L.length - i) dc, .slice (some ⟨g, i * 6, none⟩) (L.length - i) sc]).run Tryz.prog W = .ok (goInt (L.length - i : Nat)) (W.setCells w.heap.size ((i + 1) * 6) (rowV (L.drop i))) := fun W hWc hWf ty dc sc =>
    run_copy6 W ty w.heap.size ((i + 1) * 6) (L.length - i) dc ⟨g, i * 6, none⟩ (L.length - i) sc (L.length - i) (rowV (L.drop i)) (by simp only [Nat.min_def]; split <;> omega) hdl
      (fun j v hj => by
        rw [at_add, hWc, World.cell?_setCells_out _ _ _ _ _ (fun h _ => absurd h (by show g ≠ w.heap.size; omega))]
        exact hOb _ _ _ hgl (hdrop j v hj))
      (fun j hj => by rw [hWc]; exact set_some _ _ _ _ (fun t ht => hN _ (by have : m.cs.length = 6 := rfl; omega)) _ (hN _ (by omega)))
      (fun j _ => by rw [hWf, World.frozen?_setCells]; exact hNf _) (rowV_one1 _)
  have hfin : ∀ (Wa Wb : World), (∀ x, Wa.cell? x = W0.cell? x) → Wa.heap = W0.heap → (∀ x, Wb.cell? x = (Wa.setCells w.heap.size (i * 6) m.cs).cell? x) → Wb.heap = (Wa.setCells w.heap.size (i * 6) m.cs).heap → (Wb.setCells w.heap.size ((i + 1) * 6) (rowV (L.drop i))).ownsRow 0 44 6 (.slice (some ⟨w.heap.size, 0, none⟩) (L.length + 1) G) (L.length + 1) (rowV (L.take i ++ m :: L.drop i)) := by
    intro Wa Wb ha hah hb hbh
    have hg0 : Wa.heap[w.heap.size]? = some (.cells ROW 44 (0, 0)) := by rw [hah, hW0]; exact heap_alloc_new w.drew _
    obtain ⟨c1, hg1, hc1⟩ := heap_setCells (g := w.heap.size) m.cs (i * 6) Wa ROW hg0
    rw [← hbh] at hg1
    obtain ⟨c2, hg2, hc2⟩ := heap_setCells (g := w.heap.size) (rowV (L.drop i)) ((i + 1) * 6) Wb c1 hg1
    refine row_of_cells hg2 (by rw [hc2, hc1, hRs]) hGn hGm (by rw [rowV_len]; simp; omega) ?_
    intro j u hu
    have hm6 : m.cs.length = 6 := rfl
    have hs : ∀ j, j < (L.length + 1) * 6 → (Wa.cell? ⟨w.heap.size, j, none⟩).isSome = true := fun j hj => by rw [ha]; exact hN j hj
    have hs1 : ∀ j, j < (L.length + 1) * 6 → (Wb.cell? ⟨w.heap.size, j, none⟩).isSome = true := fun j hj => by
      rw [hb]; exact set_some _ _ _ _ (fun t ht => hs _ (by omega)) _ (hs j hj)
    rw [rowV_append, rowV_cons] at hu
    by_cases q1 : j < i * 6
    · rw [List.getElem?_append_left (by omega)] at hu
      rw [World.cell?_setCells_out _ _ _ _ ⟨w.heap.size, j, none⟩ (fun _ _ => .inl (by show j < _; omega)), hb, World.cell?_setCells_out _ _ _ _ ⟨w.heap.size, j, none⟩ (fun _ _ => .inl q1), ha]
      exact hN0 j u hu
    · rw [List.getElem?_append_right (by omega), htl] at hu
      by_cases q2 : j < (i + 1) * 6
      · rw [List.getElem?_append_left (by omega)] at hu
        rw [World.cell?_setCells_out _ _ _ _ ⟨w.heap.size, j, none⟩ (fun _ _ => .inl q2), hb]
        have := World.cell?_setCells_in w.heap.size m.cs (i * 6) Wa (fun t ht => hs _ (by omega)) (j - i * 6) (by omega)
        rw [show i * 6 + (j - i * 6) = j from by omega] at this
        rw [this, ← List.getElem?_eq_getElem]
        exact hu
      · rw [List.getElem?_append_right (by omega), hm6] at hu
        have hj2 : j - i * 6 - 6 < (rowV (L.drop i)).length := (List.getElem?_eq_some_iff.1 hu).1
        have := World.cell?_setCells_in w.heap.size (rowV (L.drop i)) ((i + 1) * 6) Wb (fun t ht => hs1 _ (by omega)) (j - i * 6 - 6) hj2
        rw [show (i + 1) * 6 + (j - i * 6 - 6) = j from by omega] at this
        rw [this, ← List.getElem?_eq_getElem]
        exact hu
  have hbel : ∀ (Wa Wb : World), Below w.heap.size w Wa → Below w.heap.size (Wa.setCells w.heap.size (i * 6) m.cs) Wb → Below w.heap.size w (Wb.setCells w.heap.size ((i + 1) * 6) (rowV (L.drop i))) := by
    intro Wa Wb ha hb
    have h1 : Below w.heap.size w (Wa.setCells w.heap.size (i * 6) m.cs) := (only_setCells _ _ _ _ (Only.refl w.heap.size Wa)).below (Nat.le_refl _) ha.size |> (fun k => ha.trans k)
    have h2 := h1.trans hb
    exact h2.trans ((only_setCells _ _ _ _ (Only.refl w.heap.size Wb)).below (Nat.le_refl _) h2.size)
  have HF := Lib.hid hfin
  have HB := Lib.hid hbel
  subst hW0
  have hE1 : ∀ x, ((w.alloc (.cells ROW 44)).drew).cell? x = (w.drew.alloc (.cells ROW 44)).cell? x := fun x => by rw [alloc_drew]
  have hE2 : ∀ x, ((w.alloc (.cells ROW 44)).drew).frozen? x = (w.drew.alloc (.cells ROW 44)).frozen? x := fun x => by rw [alloc_drew]
  have hF1 : ∀ x, (((w.alloc (.cells ROW 44)).drew.setCells w.heap.size (i * 6) m.cs).drew).cell? x = ((w.drew.alloc (.cells ROW 44)).setCells w.heap.size (i * 6) m.cs).cell? x := fun x => by rw [alloc_drew, cell_drew]
  have hF2 : ∀ x, (((w.alloc (.cells ROW 44)).drew.setCells w.heap.size (i * 6) m.cs).drew).frozen? x = ((w.drew.alloc (.cells ROW 44)).setCells w.heap.size (i * 6) m.cs).frozen? x := fun x => by rw [alloc_drew, frozen_drew]
  have HBW : Hid (Below w.heap.size w ((w.alloc (.cells ROW 44)).drew)) := Lib.hid (((Below.refl _ _).alloc (Nat.le_refl _) _).drew)
  have hz2' : ¬ ((i : Int) = (L.length : Int)) := by omega
  have hz3 : (L.length : Int) < (L.length : Int) + 1 := by omega
  have hw1 : IntKind.i64.wrap ((i : Int) + 1) = (i : Int) + 1 := IntWalk.i64_in _ (by omega)
  have hw2 : IntKind.i64.wrap ((L.length : Int) + 1) = (L.length : Int) + 1 := IntWalk.i64_in _ (by omega)
  have hw3 : IntKind.i64.wrap ((L.length : Int) + 1 - (i : Int)) = (L.length : Int) + 1 - (i : Int) := IntWalk.i64_in _ (by omega)
  have hb1 : (0 : Int) ≤ (i : Int) + 1 := by omega
  have hin : i ≤ L.length := by omega
  have htn : ((i : Int) + 1).toNat = i + 1 := by omega
  have hb2 : ¬ (L.length = i) := by omega
  have hb3 : ¬ (G = i) := by omega
  have hb4 : ¬ (G = i + 1) := by omega
  have hb5 : (i : Int) ≤ (L.length : Int) := by omega
  have hb6 : (i : Int) + 1 ≤ (L.length : Int) + 1 := by omega
  have hb7 : (i : Int) ≤ (L.length : Int) + 1 := by omega
  clear hG hROW hGn hGm hRs hN hNf hOb hN0 hfin hbel hki hold htake hdrop hdl htl hcells hgl hvl hg hcs hnc hm hxs h hv
  generalize L.length = n at *
  go_enter Tryz.func164, Tryz.ntmps164
  go_wp2_with (first
    | (at_builtin; refine Lib.wpList_append_run _ rfl _ _ _ _ rfl _ _ rfl rfl _ _ (hrz _) ?_)
    | (at_builtin; refine copy_step rfl _ _ 171 171 rfl _ _ rfl rfl (hcpA _ hE1 hE2 _ _) ?_))
  go_region_law (refine copy_draw rfl _ _ 171 171 rfl (.slice (some ⟨w.heap.size, (i + 1) * 6, none⟩) (n - i) (G - (i + 1))) (.slice (some ⟨g, i * 6, none⟩) (n - i) (n - i)) (by simp [Act.eval, Act.put]) (by simp [Act.eval, Act.put]) (hcpB _ hF1 hF2 3 (G - (i + 1)) (n - i)) ?_)
  go_wp2
  go_ret
  exact ⟨G, rfl, HB.out _ _ HBW.out ((Below.refl _ _).drew), HF.out _ _ hE1 rfl (fun x => cell_drew _ _) (heap_drew _)⟩
end Go.Proofs.YtpflbhcgkndpcaaGreatDoor

