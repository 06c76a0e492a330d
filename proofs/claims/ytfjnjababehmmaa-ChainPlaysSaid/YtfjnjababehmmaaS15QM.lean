/- Stage 15: ChainPlays: the claim. -/
import Derived.Deep.CutBlock
import Derived.Deep.DeepCutAuto
import Derived.Test.YtfjnjababehmmaaArgVers
import Derived.Test.YtfjnjababehmmaaChAny
import Derived.Test.YtfjnjababehmmaaChFind
import Derived.Test.YtfjnjababehmmaaChIs
import Derived.Test.YtfjnjababehmmaaChMath2
import Derived.Test.YtfjnjababehmmaaChOf
import Derived.Test.YtfjnjababehmmaaKnown15
import Derived.Test.YtfjnjababehmmaaRefGet
import Derived.Test.YtfjnjababehmmaaRefOf
import Derived.Test.YtfjnjababehmmaaRefPut2
import Derived.Test.YtfjnjababehmmaaRoomy14
import Derived.Test.YtfjnjababehmmaaSameVR
import Derived.Test.YtfjnjababehmmaaVer
/- Stage 15: the law's heavy and versions. -/
set_option linter.unusedSimpArgs false
set_option linter.unusedVariables false
namespace Go.Proofs.Ytfjnjababehmmaa
open Go.RowKit Go.Sort

theorem RowA.ver {w : World} {B O : Nat} {L : List Mv} (hcell : ∀ j u, (rowV L)[j]? = some u → w.cell? ⟨B, O + j, none⟩ = some u) {k : Nat} {x : Mv} (hx : L[k]? = some x) :
    w.cell? ⟨B, O + k * 6, none⟩ = some (.int .i64 x.v.ml) ∧ w.cell? ⟨B, O + k * 6 + 1, none⟩ = some (.int .i64 x.v.ct) ∧ w.cell? ⟨B, O + k * 6 + 2, none⟩ = some (.int .i64 x.v.vo) ∧ w.cell? ⟨B, O + k * 6 + 3, none⟩ = some (.slice x.A x.v.val.length x.c) ∧ w.cell? ⟨B, O + k * 6 + 4, none⟩ = some (.bool x.v.gone) ∧ w.cell? ⟨B, O + k * 6 + 5, none⟩ = some (.int .i64 x.v.tt) :=
  ⟨hcell _ _ (rowV_at hx 0 (by omega)), by rw [Nat.add_assoc]; exact hcell _ _ (rowV_at hx 1 (by omega)), by rw [Nat.add_assoc]; exact hcell _ _ (rowV_at hx 2 (by omega)), by rw [Nat.add_assoc]; exact hcell _ _ (rowV_at hx 3 (by omega)), by rw [Nat.add_assoc]; exact hcell _ _ (rowV_at hx 4 (by omega)), by rw [Nat.add_assoc]; exact hcell _ _ (rowV_at hx 5 (by omega))⟩
set_option maxRecDepth 100000 in
set_option maxHeartbeats 4000000 in
theorem lheavy (A : Option Addr) (L : List Mv) (c : Nat) (w : World) (ha : RowA w A L) (hs : ∀ m ∈ L, m.v.val.length ≤ 281474976710656) (hl : L.length ≤ maxLen) :
    Calls Try.prog 10 #[.slice A L.length c] w fun e w' => (∃ b, e = .returned (.bool b) ∧ (b = false → L.length ≤ 300)) ∧ w' = w := by
  have HA := Lib.hid ha
  have HS := Lib.hid hs
  have hni : (L.length : Int) ≤ 9223372036854775807 := by unfold maxLen at hl; omega
  clear ha hs hl
  go_enter Try.func10, Try.ntmps10
  go_wp2
  go_loopw [3, 4] (fun u i wr => ∃ k m : Nat, k ≤ L.length ∧ i = .int .i64 k ∧ u = .int .i64 m ∧ 30 * k ≤ m ∧ m ≤ 8000 ∧ wr = w) (fun _ i _ => L.length - (intOf i).toNat)
  case atStart => exact ⟨0, 0, Nat.zero_le _, rfl, rfl, by omega, by omega, rfl⟩
  case round =>
    obtain ⟨k, m, hk, rfl, rfl, h20, hm, rfl⟩ := hrel
    by_cases hlt : k < L.length
    · have lk : (k : Int) < (L.length : Int) := by omega
      obtain ⟨B, O, rfl, hBl, hcell⟩ := HA.out (by omega)
      have hx : L[k]? = some L[k] := List.getElem?_eq_getElem hlt
      have hsz := HS.out L[k] (List.getElem_mem hlt)
      generalize L[k] = x at *
      obtain ⟨_, _, _, a3, _, _⟩ := RowA.ver hcell hx
      generalize x.v.val.length = vn at *
      have w1 : IntKind.i64.wrap ((m : Int) + 30) = (m : Int) + 30 := IntWalk.i64_in _ (by omega)
      have w2 : IntKind.i64.wrap ((m : Int) + 30 + (vn : Int)) = (m : Int) + 30 + (vn : Int) := IntWalk.i64_in _ (by omega)
      clear hx hlt hcell
      by_cases hh : 8000 < m + 30 + vn
      · have t1 : decide ((8000 : Int) < (m : Int) + 30 + (vn : Int)) = true := by simp; omega
        go_wp2
        go_ret
        exact ⟨⟨true, rfl, fun h => by cases h⟩, by first | rfl | trivial⟩
      · have t1 : decide ((8000 : Int) < (m : Int) + 30 + (vn : Int)) = false := by simp; omega
        go_wp2
        go_roundw
        case rel => exact ⟨k + 1, m + 30 + vn, by omega, by go_num, by go_num, by omega, by omega, by first | rfl | trivial⟩
        case measure => simp [intOf]; omega
    · obtain rfl : k = L.length := by omega
      go_wp2
      go_ret
      exact ⟨⟨false, rfl, fun _ => by omega⟩, by first | rfl | trivial⟩
set_option maxRecDepth 100000 in
set_option maxHeartbeats 4000000 in
theorem lversions (A A' : Option Addr) (L L' : List Mv) (c c' : Nat) (w : World) (ha : RowA w A L) (ha' : RowA w A' L') (hm : ∀ m ∈ L, m.At (fun _ => True) w) (hm' : ∀ m ∈ L', m.At (fun _ => True) w) (hl : L.length ≤ 1000000) (hl' : L'.length ≤ 1000000) :
    Calls Try.prog 29 #[.slice A L.length c, .slice A' L'.length c'] w fun e w' => (∃ b, e = .returned (.bool b) ∧ (b = true ↔ L.map Mv.v = L'.map Mv.v)) ∧ Below w.heap.size w w' := by
  have HB0 : Hid (Below w.heap.size w w) := Lib.hid (Below.refl _ _)
  by_cases hne : L.length = L'.length
  · have HA := Lib.hid ha
    have HA' := Lib.hid ha'
    have HM := Lib.hid hm
    have HM' := Lib.hid hm'
    have HL : Hid (L.length = L'.length) := hne
    have hln : (L.length : Int) ≤ 1000000 := by omega
    rw [← hne]
    clear ha ha' hm hm' hl hl' hne
    go_enter Try.func29, Try.ntmps29
    go_wp2
    go_loopw [5] (fun i wr => ∃ k : Nat, k ≤ L.length ∧ i = .int .i64 k ∧ (L.map Mv.v).take k = (L'.map Mv.v).take k ∧ Below w.heap.size w wr) (fun i _ => L.length - (intOf i).toNat)
    case atStart => exact ⟨0, Nat.zero_le _, rfl, rfl, HB0.out⟩
    case round =>
      obtain ⟨k, hk, rfl, htk, hB⟩ := hrel
      by_cases hlt : k < L.length
      · have lk : (k : Int) < (L.length : Int) := by omega
        have hlt' : k < L'.length := by rw [← HL.out]; exact hlt
        obtain ⟨B, O, rfl, hBl, hcell⟩ := HA.out (by omega)
        obtain ⟨B', O', rfl, hBl', hcell'⟩ := HA'.out (by omega)
        have hx : L[k]? = some L[k] := List.getElem?_eq_getElem hlt
        have hx' : L'[k]? = some L'[k] := List.getElem?_eq_getElem hlt'
        have hxa := ((HM.out L[k] (List.getElem_mem hlt)).b.below (hB.mono (Nat.le_refl _) |> fun h => h))
        have hn1 := (HM.out L[k] (List.getElem_mem hlt)).n
        have hy1 := (HM.out L[k] (List.getElem_mem hlt)).y
        have hxa' := ((HM'.out L'[k] (List.getElem_mem hlt')).b.below (hB.mono (Nat.le_refl _) |> fun h => h))
        have hn1' := (HM'.out L'[k] (List.getElem_mem hlt')).n
        have hy1' := (HM'.out L'[k] (List.getElem_mem hlt')).y
        have HTK : Hid (((L.map Mv.v).take (k + 1) = (L'.map Mv.v).take (k + 1)) ↔ L[k].v = L'[k].v) := Lib.hid (by
          have e1 : k < (L.map Mv.v).length := by simpa using hlt
          have e2 : k < (L'.map Mv.v).length := by simpa using hlt'
          rw [List.take_succ_eq_append_getElem e1, List.take_succ_eq_append_getElem e2, htk]
          simp)
        have HALL : Hid (L.map Mv.v = L'.map Mv.v → L[k].v = L'[k].v) := Lib.hid (fun h => by
          have := congrArg (fun l => l[k]?) h
          simpa [hx, hx'] using this)
        generalize L[k] = x at *
        generalize L'[k] = x' at *
        obtain ⟨a0, a1, a2, a3, a4, a5⟩ := RowA.ver hcell hx
        obtain ⟨b0, b1, b2, b3, b4, b5⟩ := RowA.ver hcell' hx'
        have ga : ∀ o, wr.cell? ⟨B, o, none⟩ = w.cell? ⟨B, o, none⟩ := fun o => hB.cell (p := ⟨B, o, none⟩) hBl
        have gb : ∀ o, wr.cell? ⟨B', o, none⟩ = w.cell? ⟨B', o, none⟩ := fun o => hB.cell (p := ⟨B', o, none⟩) hBl'
        rw [← ga] at a0 a1 a2 a3 a4 a5
        rw [← gb] at b0 b1 b2 b3 b4 b5
        obtain ⟨⟨ml, ct, vo, p, g, tt⟩, A, cc⟩ := x
        obtain ⟨⟨ml', ct', vo', p', g', tt'⟩, A', cc'⟩ := x'
        have HB := Lib.hid hB
        have hcon := fun W (hb : Below wr.heap.size wr W) => ref_sameV ml ct vo p g tt A cc ml' ct' vo' p' g' tt' A' cc' W (hxa.below hb) hy1 hn1 (hxa'.below hb) hy1' hn1'
        have hif := sameVB_iff ⟨ml, ct, vo, p, g, tt⟩ ⟨ml', ct', vo', p', g', tt'⟩
        have hif' : sameVB ml ct vo p g tt ml' ct' vo' p' g' tt' = true ↔ (⟨ml, ct, vo, p, g, tt⟩ : Vs) = ⟨ml', ct', vo', p', g', tt'⟩ := hif
        have HIF := Lib.hid hif'
        clear hif hif'
        generalize sameVB ml ct vo p g tt ml' ct' vo' p' g' tt' = sb at *
        have AC := Lib.hid fun (d' : Nat) (os : Array Obj) => Calls.regrown_of (hcon (grow (redrawn wr d') os) (below_regrown wr d' os))
        have ka0 := fun d os => cell_regrown a0 d os
        have ka1 := fun d os => cell_regrown a1 d os
        have ka2 := fun d os => cell_regrown a2 d os
        have ka3 := fun d os => cell_regrown a3 d os
        have ka4 := fun d os => cell_regrown a4 d os
        have ka5 := fun d os => cell_regrown a5 d os
        have kb0 := fun d os => cell_regrown b0 d os
        have kb1 := fun d os => cell_regrown b1 d os
        have kb2 := fun d os => cell_regrown b2 d os
        have kb3 := fun d os => cell_regrown b3 d os
        have kb4 := fun d os => cell_regrown b4 d os
        have kb5 := fun d os => cell_regrown b5 d os
        clear a0 a1 a2 a3 a4 a5 b0 b1 b2 b3 b4 b5 ga gb hcell hcell' hx hx' hxa hxa' hn1 hn1' hy1 hy1' hB hcon htk hlt hlt' HA HA' HM HM'
        cases sb with
        | false =>
          go_wp2_with fail
          refine wp_region_quiet_below (by kernel_rfl) (by kernel_rfl) ?_
          repeat (go_big_quiet_step ((go_at_call 25; exact AC.out _ _)))
          refine wpQuiet_nil ?_
          intro _ hw'
          obtain ⟨⟨dq, osq⟩, hw''⟩ := hw'
          subst hw''
          have HBF := Lib.hid (HB.out.trans ((below_regrown wr dq osq).mono HB.out.size))
          go_wp2
          go_ret
          exact ⟨⟨false, rfl, by constructor; (· intro h; cases h); (· intro h; exact HIF.out.2 (HALL.out h))⟩, HBF.out⟩
        | true =>
          go_wp2_with fail
          refine wp_region_quiet_below (by kernel_rfl) (by kernel_rfl) ?_
          repeat (go_big_quiet_step ((go_at_call 25; exact AC.out _ _)))
          refine wpQuiet_nil ?_
          intro _ hw'
          obtain ⟨⟨dq, osq⟩, hw''⟩ := hw'
          subst hw''
          have HBF := Lib.hid (HB.out.trans ((below_regrown wr dq osq).mono HB.out.size))
          have HT2 := Lib.hid (HTK.out.2 (HIF.out.1 (by first | rfl | trivial)))
          clear HTK HALL HIF AC
          go_wp2
          go_roundw
          case rel => exact ⟨k + 1, by omega, by go_num, HT2.out, HBF.out⟩
          case measure => simp [intOf]; omega
      · obtain rfl : k = L.length := by omega
        have HB := Lib.hid hB
        have HT : Hid (L.map Mv.v = L'.map Mv.v) := Lib.hid (by
          have e1 : (L.map Mv.v).take L.length = L.map Mv.v := List.take_of_length_le (by simp)
          have e2 : (L'.map Mv.v).take L.length = L'.map Mv.v := List.take_of_length_le (by simp [HL.out])
          rw [← e1, htk, e2])
        clear hB htk hlt HA HA' HM HM'
        go_wp2
        go_ret
        exact ⟨⟨true, rfl, by simp [HT.out]⟩, HB.out⟩
  · have hn' : ((L.length : Int) != (L'.length : Int)) = true := by simp; omega
    have hn2 : ¬ ((L.length : Int) = (L'.length : Int)) := by omega
    have HN : Hid (¬ L.map Mv.v = L'.map Mv.v) := Lib.hid (fun e => hne (by simpa using congrArg List.length e))
    clear ha ha' hm hm' hne
    go_enter Try.func29, Try.ntmps29
    go_wp2
    go_ret
    exact ⟨⟨false, rfl, by simp [HN.out]⟩, HB0.out⟩
end Go.Proofs.Ytfjnjababehmmaa

/- The reference's Trim: what is left behind the store, and a stamp ahead of all. -/
namespace Go.Proofs.Ytfjnjababehmmaa
open Go.RowKit Go.Sort

def RTrimPost (P : Nat → Prop) (b : Nat) (v : Value) (L : List Mv) (r : Nat) (w w' : World) : Prop := ∃ v', Ch (fun i => P i ∨ (w.heap.size ≤ i ∧ i < w'.heap.size)) w' b v' (L.drop r) ∧ But (FootC b v) w w'
theorem rtrim_fin {P : Nat → Prop} {b : Nat} {v v9 : Value} {L : List Mv} {r : Nat} {w V : World} (h0 : Ch P w b v L) (hb : Below w.heap.size w V)
    (hrow : V.ownsRow w.heap.size 28 6 v9 (L.length - r) (rowV (L.drop r))) :
    RTrimPost P b v L r w (V.setCell ⟨b, 0, none⟩ v9) := by
  have hbl := h0.lt
  have hz := hb.size
  have h2 := h0.below hb
  have hvl : ∀ i, v9.ownBlock = some i → w.heap.size ≤ i ∧ i < V.heap.size := fun i hi => World.ownsRow.lt hrow i hi
  have hlen : (L.drop r).length = L.length - r := List.length_drop ..
  have hO : But (fun i => i = b) V (V.setCell ⟨b, 0, none⟩ v9) := But.of_only ((Only.refl b V).setB _) rfl
  have hzs : (V.setCell ⟨b, 0, none⟩ v9).heap.size = V.heap.size := by simp [World.setCell]
  refine ⟨_, ⟨World.cell?_setCell_same _ _ _ h2.c0, by rw [World.frozen?_setCell]; exact h2.f0, by rw [hzs]; exact h2.lt, ?_, fun e => by have := (hvl _ e).1; omega, .inl h0.pb, fun i hi => .inr ⟨(hvl i hi).1, by rw [hzs]; exact (hvl i hi).2⟩, fun x hx => ?_⟩, ?_⟩
  · rw [hlen]
    exact hO.row (own_base (Nat.zero_le _) hrow) (fun i hi e => by have := (hvl i hi).1; omega)
  · have h1 := (h0.ats x (List.mem_of_mem_drop hx)).mono (Q' := fun i => (P i ∧ i ≠ b) ∧ i < w.heap.size) (fun i hi hq => ⟨⟨hq.1, hq.2.1⟩, hi⟩)
    have h3 := (h1.but (S := fun i => w.heap.size ≤ i) ⟨hb.os, hb.tape, hb.output, hb.size, fun i hi hn => hb.block i (by omega)⟩ (fun i hi hq => by have := hq.2; omega)).but hO (fun i hi hq => hq.1.2 hi)
    exact h3.mono (fun i _ hq => ⟨.inl hq.1.1, hq.1.2, fun e => by have := (hvl i e).1; have := hq.2; omega⟩)
  · exact (But.of_below (S := FootC b v) (hb.mono (Nat.le_refl _))).trans hO (fun i _ hi => .inl hi)
set_option maxHeartbeats 4000000 in
theorem ref_trim_none (P : Nat → Prop) (b : Nat) (v : Value) (L : List Mv) (tm tc : Int) (w : World) (h : Ch P w b v L) (hl : L.length ≤ 1000000) (hs : StandV L (fun x => cmp2 x.ml x.ct tm tc ≤ 0) 0) :
    Calls Try.prog 27 #[.pointer (some ⟨b, 0, none⟩), .agg #[.int .i64 tm, .int .i64 tc]] w fun e w' => e = .returned (.int .i64 0) ∧ Below w.heap.size w w' := by
  have HB0 : Below w.heap.size w (w.alloc (.cells #[.int .i64 tm, .int .i64 tc] 25)) := by (repeat' (first | (with_reducible exact Below.refl _ _) | (with_reducible assumption) | (with_reducible refine Below.trans ?_ (Below.mono (by with_reducible assumption) ?_)) | (with_reducible refine Below.alloc ?_ ?_ _) | (with_reducible refine Below.setCell ?_ ?_ _) | (with_reducible refine below_drewN ?_ _) | (with_reducible refine Below.drew ?_) | go_size))
  have HU : Hid (Calls Try.prog 42 #[.pointer (some ⟨b, 0, none⟩), .agg #[.int .i64 tm, .int .i64 tc]] (w.alloc (.cells #[.int .i64 tm, .int .i64 tc] 25)) fun e w' => e = .returned (.int .i64 (-1)) ∧ Below (w.alloc (.cells #[.int .i64 tm, .int .i64 tc] 25)).heap.size (w.alloc (.cells #[.int .i64 tm, .int .i64 tc] 25)) w') := Lib.hid ((ref_place P b v L tm tc 0 _ (h.below HB0) hl hs).mono fun e w' ⟨h1, h2⟩ => ⟨h1, h2⟩)
  clear h hs
  go_enter Try.func27, Try.ntmps27
  go_wp2_with fail
  refine HU.out.mono ?_
  rintro e w1 ⟨rfl, hb1⟩
  have HB1 := Lib.hid (HB0.trans (hb1.mono HB0.size))
  clear hb1 HU HB0
  go_wp2
  go_ret
  exact ⟨rfl, HB1.out⟩
end Go.Proofs.Ytfjnjababehmmaa

/- The reference's Trim at a stamp behind a version (written by gen/reftrim.py). -/
namespace Go.Proofs.Ytfjnjababehmmaa
open Go.RowKit Go.Sort

set_option maxRecDepth 100000 in
set_option maxHeartbeats 8000000 in
theorem ref_trim (P : Nat → Prop) (b : Nat) (v : Value) (L : List Mv) (tm tc : Int) (k : Nat) (x : Mv) (sb : Bool) (w : World) (h : Ch P w b v L) (hl : L.length ≤ 1000000) (hs : StandV L (fun x => cmp2 x.ml x.ct tm tc ≤ 0) (k + 1)) (hx : L[k]? = some x) (ho : x.v.ok = true) (hw : (Lit.int .i64 tm).wf = true) (hsb : seenB x.v tm tc = sb) :
    Calls Try.prog 27 #[.pointer (some ⟨b, 0, none⟩), .agg #[.int .i64 tm, .int .i64 tc]] w fun e w' => e = .returned (.int .i64 (k + 1 - (if sb then 1 else 0) : Nat)) ∧ RTrimPost P b v L (k + 1 - (if sb then 1 else 0)) w w' := by
  obtain ⟨i0, hi0, hz0, hz1, hz2⟩ := info_parts ver_info
  have HB0 : Below w.heap.size w (w.alloc (.cells #[.int .i64 tm, .int .i64 tc] 25)) := by (repeat' (first | (with_reducible exact Below.refl _ _) | (with_reducible assumption) | (with_reducible refine Below.trans ?_ (Below.mono (by with_reducible assumption) ?_)) | (with_reducible refine Below.alloc ?_ ?_ _) | (with_reducible refine Below.setCell ?_ ?_ _) | (with_reducible refine below_drewN ?_ _) | (with_reducible refine Below.drew ?_) | go_size))
  have HU : Hid (Calls Try.prog 42 #[.pointer (some ⟨b, 0, none⟩), .agg #[.int .i64 tm, .int .i64 tc]] (w.alloc (.cells #[.int .i64 tm, .int .i64 tc] 25)) fun e w' => e = .returned (.int .i64 (k : Int)) ∧ Below (w.alloc (.cells #[.int .i64 tm, .int .i64 tc] 25)).heap.size (w.alloc (.cells #[.int .i64 tm, .int .i64 tc] 25)) w') := Lib.hid ((ref_place P b v L tm tc (k + 1) _ (h.below HB0) hl hs).mono fun e w' ⟨h1, h2⟩ => ⟨h1.trans (by rw [show ((k + 1 : Nat) : Int) - 1 = (k : Int) from by omega]), h2⟩)
  have hkl : k < L.length := (List.getElem?_eq_some_iff.1 hx).1
  obtain ⟨g, cap, rfl, hcap1, hcap2, _⟩ := row_shape h.row (by omega)
  have HH := Lib.hid h
  have HX := Lib.hid hx
  obtain ⟨⟨ml, ct, vo, val, gn, tt⟩, A, cc⟩ := x
  obtain ⟨m0, m1, _, _, _, _, _, t0, t1⟩ := ok_bd ho
  have HSN0 := fun W => ref_seen ml ct vo A val.length cc gn tt tm tc val W m0 t0 m1 t1 hw
  rw [hsb] at HSN0
  have HSN := Lib.hid HSN0
  have hk2 : (k : Int) < (L.length : Int) := by omega
  have tk : decide ((k : Int) < 0) = false := by simp
  have wk : IntKind.i64.wrap ((k : Int) + 1) = (k : Int) + 1 := IntWalk.i64_in _ (by omega)
  have hci : (L.length : Int) ≤ (cap : Int) := by omega
  clear h hs hx ho hsb HSN0 m0 m1 t0 t1 hw
  go_enter Try.func27, Try.ntmps27
  go_wp2_with fail
  refine HU.out.mono ?_
  rintro e w1 ⟨rfl, hb1⟩
  have hbb := HB0.trans (hb1.mono HB0.size)
  have H1 := HH.out.below hbb
  have c0 := H1.c0
  obtain ⟨q0, q1, q2, q3, q4, q5⟩ := H1.ver HX.out
  have s0 : w1.cell? ⟨w.heap.size, 0, none⟩ = some (.int .i64 tm) := (hb1.cell (p := ⟨w.heap.size, 0, none⟩) (by simp)).trans (by simp)
  have s1 : w1.cell? ⟨w.heap.size, 1, none⟩ = some (.int .i64 tc) := (hb1.cell (p := ⟨w.heap.size, 1, none⟩) (by simp)).trans (by simp)
  have HB1 := Lib.hid hbb
  have kc0 := fun d os => cell_regrown c0 d os
  have kq0 := fun d os => cell_regrown q0 d os
  have kq1 := fun d os => cell_regrown q1 d os
  have kq2 := fun d os => cell_regrown q2 d os
  have kq3 := fun d os => cell_regrown q3 d os
  have kq4 := fun d os => cell_regrown q4 d os
  have kq5 := fun d os => cell_regrown q5 d os
  have ks0 := fun d os => cell_regrown s0 d os
  have ks1 := fun d os => cell_regrown s1 d os
  have AC := Lib.hid fun (d' : Nat) (os : Array Obj) => Calls.regrown_of (HSN.out (grow (redrawn w1 d') os))
  clear c0 q0 q1 q2 q3 q4 q5 s0 s1 HSN HU HX H1 hbb hb1 HB0
  go_wp2_with fail
  refine wp_region_quiet_below (by kernel_rfl) (by kernel_rfl) ?_
  repeat (go_big_quiet_step ((go_at_call 44; exact AC.out _ _)))
  refine wpQuiet_nil ?_
  intro _ hw'
  obtain ⟨⟨dq, osq⟩, hw''⟩ := hw'
  subst hw''
  have HB2 := Lib.hid (HB1.out.trans ((below_regrown w1 dq osq).mono HB1.out.size))
  clear kc0 kq0 kq1 kq2 kq3 kq4 kq5 ks0 ks1 AC HB1
  generalize hgw : grow (redrawn w1 dq) osq = w2 at *
  clear hgw
  cases sb with
  | false =>
    have HDL : Hid ((rowV (L.drop ((k + 1)))).length = (L.length - ((k + 1))) * 6) := Lib.hid (by rw [rowV_len, List.length_drop])
    have RW : Hid ((w2.alloc (.cells #[] 28)).ownsRow w2.heap.size 28 6 (.slice (some ⟨w2.heap.size, 0, none⟩) 0 0) 0 []) := Lib.hid (World.ownsRow_made (base := w2.heap.size) (e := 28) (size := 6) w2 #[] 0 (Nat.le_refl _) (Nat.zero_le _) rfl)
    have c0 := (HH.out.below HB2.out).c0
    have c1 := (HH.out.below (HB2.out.alloc HB2.out.size (.cells #[] 28))).c0
    have HSRC : Hid (∀ j u, (rowV (L.drop ((k + 1))))[j]? = some u → (w2.alloc (.cells #[] 28)).cell? ⟨g, ((k + 1)) * 6 + j, none⟩ = some u) := Lib.hid (fun j u hu => by
      have h1 := (HH.out.below (HB2.out.alloc HB2.out.size (.cells #[] 28))).row
      refine row_cell h1 ?_
      rw [← rowV_drop, List.getElem?_drop] at hu
      exact hu)
    have hkc : ((k + 1)) ≤ cap := by omega
    by_cases hcr : cap = (k + 1)
    · have hsrc : ∀ j u, (rowV (L.drop ((k + 1))))[j]? = some u → (w2.alloc (.cells #[] 28)).cell? ((⟨g, 0, none⟩ : Addr).add j) = some u := fun j u hu => by
        have h5 := (List.getElem?_eq_some_iff.1 hu).1
        have h6 := HDL.out
        omega
      go_wp2_with (at_builtin; refine wpList_append_own _ rfl (.tmp 24) (.tmp 30) 22 rfl w2.heap.size 28 i0 _ 6 64 Try.underlying22 hi0 hz0 hz1 hz2 rfl (by decide) (.slice (some ⟨w2.heap.size, 0, none⟩) 0 0) 0 [] rfl RW.out ⟨g, 0, none⟩ (L.length - ((k + 1))) _ (rowV (L.drop (k + 1))) rfl HDL.out hsrc (rowV_one1 _) (by unfold maxLen; omega) (by omega) (by simp) ?_; intro v9 V9 hv9 hg9 _; have hv9' : V9.ownsRow w2.heap.size 28 6 v9 (L.length - ((k + 1))) (rowV (L.drop (k + 1))) := (by simpa using hv9); have HB9 : Hid (Below w.heap.size w V9) := Lib.hid ((HB2.out.alloc HB2.out.size (.cells #[] 28)).grown hg9 (by have h8 := HB2.out.size; simp; omega) (fun i hi => by have h7 := (World.ownsRow.lt RW.out i hi).1; have h8 := HB2.out.size; omega)); have c99 := (HH.out.below HB9.out).c0; have f99 := (HH.out.below HB9.out).f0; have HFIN := Lib.hid (rtrim_fin (r := (k + 1)) HH.out HB9.out (own_base HB2.out.size hv9')); obtain ⟨A9, c9', rfl⟩ := row_shapeV hv9'; clear hv9 hv9' hg9)
      (try go_wp2)
      all_goals go_ret
      all_goals exact ⟨rfl, HFIN.out⟩
    · have hsrc : ∀ j u, (rowV (L.drop ((k + 1))))[j]? = some u → (w2.alloc (.cells #[] 28)).cell? ((⟨g, ((k + 1)) * 6, none⟩ : Addr).add j) = some u := fun j u hu => by rw [at_add]; exact HSRC.out j u hu
      go_wp2_with (at_builtin; refine wpList_append_own _ rfl (.tmp 24) (.tmp 30) 22 rfl w2.heap.size 28 i0 _ 6 64 Try.underlying22 hi0 hz0 hz1 hz2 rfl (by decide) (.slice (some ⟨w2.heap.size, 0, none⟩) 0 0) 0 [] rfl RW.out ⟨g, ((k + 1)) * 6, none⟩ (L.length - ((k + 1))) _ (rowV (L.drop (k + 1))) rfl HDL.out hsrc (rowV_one1 _) (by unfold maxLen; omega) (by omega) (by simp) ?_; intro v9 V9 hv9 hg9 _; have hv9' : V9.ownsRow w2.heap.size 28 6 v9 (L.length - ((k + 1))) (rowV (L.drop (k + 1))) := (by simpa using hv9); have HB9 : Hid (Below w.heap.size w V9) := Lib.hid ((HB2.out.alloc HB2.out.size (.cells #[] 28)).grown hg9 (by have h8 := HB2.out.size; simp; omega) (fun i hi => by have h7 := (World.ownsRow.lt RW.out i hi).1; have h8 := HB2.out.size; omega)); have c99 := (HH.out.below HB9.out).c0; have f99 := (HH.out.below HB9.out).f0; have HFIN := Lib.hid (rtrim_fin (r := (k + 1)) HH.out HB9.out (own_base HB2.out.size hv9')); obtain ⟨A9, c9', rfl⟩ := row_shapeV hv9'; clear hv9 hv9' hg9)
      (try go_wp2)
      all_goals go_ret
      all_goals exact ⟨rfl, HFIN.out⟩
  | true =>
    have HDL : Hid ((rowV (L.drop (k))).length = (L.length - (k)) * 6) := Lib.hid (by rw [rowV_len, List.length_drop])
    have RW : Hid ((w2.alloc (.cells #[] 28)).ownsRow w2.heap.size 28 6 (.slice (some ⟨w2.heap.size, 0, none⟩) 0 0) 0 []) := Lib.hid (World.ownsRow_made (base := w2.heap.size) (e := 28) (size := 6) w2 #[] 0 (Nat.le_refl _) (Nat.zero_le _) rfl)
    have c0 := (HH.out.below HB2.out).c0
    have c1 := (HH.out.below (HB2.out.alloc HB2.out.size (.cells #[] 28))).c0
    have HSRC : Hid (∀ j u, (rowV (L.drop (k)))[j]? = some u → (w2.alloc (.cells #[] 28)).cell? ⟨g, (k) * 6 + j, none⟩ = some u) := Lib.hid (fun j u hu => by
      have h1 := (HH.out.below (HB2.out.alloc HB2.out.size (.cells #[] 28))).row
      refine row_cell h1 ?_
      rw [← rowV_drop, List.getElem?_drop] at hu
      exact hu)
    have hkc : (k) ≤ cap := by omega
    by_cases hcr : cap = k
    · have hsrc : ∀ j u, (rowV (L.drop (k)))[j]? = some u → (w2.alloc (.cells #[] 28)).cell? ((⟨g, 0, none⟩ : Addr).add j) = some u := fun j u hu => by
        have h5 := (List.getElem?_eq_some_iff.1 hu).1
        have h6 := HDL.out
        omega
      go_wp2_with (at_builtin; refine wpList_append_own _ rfl (.tmp 24) (.tmp 30) 22 rfl w2.heap.size 28 i0 _ 6 64 Try.underlying22 hi0 hz0 hz1 hz2 rfl (by decide) (.slice (some ⟨w2.heap.size, 0, none⟩) 0 0) 0 [] rfl RW.out ⟨g, 0, none⟩ (L.length - (k)) _ (rowV (L.drop k)) rfl HDL.out hsrc (rowV_one1 _) (by unfold maxLen; omega) (by omega) (by simp) ?_; intro v9 V9 hv9 hg9 _; have hv9' : V9.ownsRow w2.heap.size 28 6 v9 (L.length - (k)) (rowV (L.drop k)) := (by simpa using hv9); have HB9 : Hid (Below w.heap.size w V9) := Lib.hid ((HB2.out.alloc HB2.out.size (.cells #[] 28)).grown hg9 (by have h8 := HB2.out.size; simp; omega) (fun i hi => by have h7 := (World.ownsRow.lt RW.out i hi).1; have h8 := HB2.out.size; omega)); have c99 := (HH.out.below HB9.out).c0; have f99 := (HH.out.below HB9.out).f0; have HFIN := Lib.hid (rtrim_fin (r := k) HH.out HB9.out (own_base HB2.out.size hv9')); obtain ⟨A9, c9', rfl⟩ := row_shapeV hv9'; clear hv9 hv9' hg9)
      (try go_wp2)
      all_goals go_ret
      all_goals exact ⟨rfl, HFIN.out⟩
    · have hsrc : ∀ j u, (rowV (L.drop (k)))[j]? = some u → (w2.alloc (.cells #[] 28)).cell? ((⟨g, (k) * 6, none⟩ : Addr).add j) = some u := fun j u hu => by rw [at_add]; exact HSRC.out j u hu
      go_wp2_with (at_builtin; refine wpList_append_own _ rfl (.tmp 24) (.tmp 30) 22 rfl w2.heap.size 28 i0 _ 6 64 Try.underlying22 hi0 hz0 hz1 hz2 rfl (by decide) (.slice (some ⟨w2.heap.size, 0, none⟩) 0 0) 0 [] rfl RW.out ⟨g, (k) * 6, none⟩ (L.length - (k)) _ (rowV (L.drop k)) rfl HDL.out hsrc (rowV_one1 _) (by unfold maxLen; omega) (by omega) (by simp) ?_; intro v9 V9 hv9 hg9 _; have hv9' : V9.ownsRow w2.heap.size 28 6 v9 (L.length - (k)) (rowV (L.drop k)) := (by simpa using hv9); have HB9 : Hid (Below w.heap.size w V9) := Lib.hid ((HB2.out.alloc HB2.out.size (.cells #[] 28)).grown hg9 (by have h8 := HB2.out.size; simp; omega) (fun i hi => by have h7 := (World.ownsRow.lt RW.out i hi).1; have h8 := HB2.out.size; omega)); have c99 := (HH.out.below HB9.out).c0; have f99 := (HH.out.below HB9.out).f0; have HFIN := Lib.hid (rtrim_fin (r := k) HH.out HB9.out (own_base HB2.out.size hv9')); obtain ⟨A9, c9', rfl⟩ := row_shapeV hv9'; clear hv9 hv9' hg9)
      (try go_wp2)
      all_goals go_ret
      all_goals exact ⟨rfl, HFIN.out⟩
end Go.Proofs.Ytfjnjababehmmaa

/- The reference's Trim at any stamp. -/
namespace Go.Proofs.Ytfjnjababehmmaa
open Go.RowKit Go.Sort

def RTrimAns (P : Nat → Prop) (b : Nat) (v : Value) (L : List Mv) (t : Int × Int) (w w' : World) (e : Ending) : Prop := e = .returned (.int .i64 (cutM (L.map Mv.v) t : Nat)) ∧ RTrimPost P b v L (cutM (L.map Mv.v) t) w w'
theorem ref_trim_any (P : Nat → Prop) (b : Nat) (v : Value) (L : List Mv) (tm tc : Int) (w : World) (h : Ch P w b v L) (hl : L.length ≤ 1000000) (hr : Rise (L.map Mv.v)) (hok : ∀ x ∈ L, x.v.ok = true) (hw : (Lit.int .i64 tm).wf = true) :
    Calls Try.prog 27 #[.pointer (some ⟨b, 0, none⟩), .agg #[.int .i64 tm, .int .i64 tc]] w fun e w' => RTrimAns P b v L (tm, tc) w w' e := by
  have hs := stand_t hr (tm, tc)
  rcases atM_cases (L := L) (tm, tc) with ⟨h0, ha⟩ | ⟨k, x, h0, hx, ha⟩
  · rw [h0] at hs
    have hc : cutM (L.map Mv.v) (tm, tc) = 0 := by unfold cutM; rw [ha]
    exact (ref_trim_none P b v L tm tc w h hl hs).mono fun e w' ⟨h1, h2⟩ => ⟨by rw [hc]; exact h1, v, by rw [hc]; exact (h.below h2).mono (fun i _ hp => .inl hp), But.of_below h2⟩
  · rw [h0] at hs
    obtain ⟨sb, hsn⟩ : ∃ sb, seenB x.v tm tc = sb := ⟨_, rfl⟩
    have hc : cutM (L.map Mv.v) (tm, tc) = k + 1 - (if sb then 1 else 0) := by unfold cutM; rw [ha]; simp only [h0, hsn]
    exact (ref_trim P b v L tm tc k x sb w h hl hs hx (hok x (List.mem_of_getElem? hx)) hw hsn).mono fun e w' ⟨h1, h2⟩ => ⟨by rw [hc]; exact h1, by rw [hc]; exact h2⟩
end Go.Proofs.Ytfjnjababehmmaa

/- Stage 15: two chains side by side, one of the code's and one of the reference's: what each call leaves of both. -/
namespace Go.Proofs.Ytfjnjababehmmaa
open Go.RowKit Go.Sort

/-- Two chains that share no block; all of both lies from the call's own first block on, and off the blocks from N to M. -/
structure Cx (w : World) (b bx : Nat) (L L' : List Mv) (N M : Nat) (wr : World) : Prop where
  ex : ∃ (P P' : Nat → Prop) (v v' : Value), Ch P wr b v L ∧ Ch P' wr bx v' L' ∧ (∀ i, P i → P' i → False) ∧ (∀ i, P i → w.heap.size ≤ i ∧ i < wr.heap.size ∧ (i < N ∨ M ≤ i)) ∧ (∀ i, P' i → w.heap.size ≤ i ∧ i < wr.heap.size ∧ (i < N ∨ M ≤ i))
  r : Rise (L.map Mv.v)
  r' : Rise (L'.map Mv.v)
  ok : ∀ x ∈ L, x.v.ok = true
  ok' : ∀ x ∈ L', x.v.ok = true
  top : M ≤ wr.heap.size
  bel : Below w.heap.size w wr
theorem Cx.but {w : World} {b bx : Nat} {L L' : List Mv} {N M : Nat} {wr W : World} {S : Nat → Prop} (h : Cx w b bx L L' N M wr) (k : But S wr W) (hs : ∀ i, S i → N ≤ i ∧ i < M) (hN : w.heap.size ≤ N) : Cx w b bx L L' N M W := by
  obtain ⟨P, P', v, v', h1, h2, hd, hp, hp'⟩ := h.ex
  have hz := k.size
  exact ⟨⟨P, P', v, v', h1.but k (fun i hi hq => by have := hs i hq; have := (hp i hi).2.2; omega), h2.but k (fun i hi hq => by have := hs i hq; have := (hp' i hi).2.2; omega), hd, fun i hi => by have := hp i hi; omega, fun i hi => by have := hp' i hi; omega⟩, h.r, h.r', h.ok, h.ok', Nat.le_trans h.top k.size, h.bel.trans (k.below (fun i hi => Nat.le_trans hN (hs i hi).1) h.bel.size)⟩
theorem Cx.below {w : World} {b bx : Nat} {L L' : List Mv} {N M : Nat} {wr W : World} (h : Cx w b bx L L' N M wr) (k : Below wr.heap.size wr W) : Cx w b bx L L' N M W := by
  obtain ⟨P, P', v, v', h1, h2, hd, hp, hp'⟩ := h.ex
  have hz := k.size
  exact ⟨⟨P, P', v, v', h1.below k, h2.below k, hd, fun i hi => by have := hp i hi; omega, fun i hi => by have := hp' i hi; omega⟩, h.r, h.r', h.ok, h.ok', Nat.le_trans h.top hz, h.bel.trans (k.mono h.bel.size)⟩
/-- All of both is old. -/
theorem Cx.old {w : World} {b bx : Nat} {L L' : List Mv} {N M : Nat} {wr : World} (h : Cx w b bx L L' N M wr) : Cx w b bx L L' wr.heap.size wr.heap.size wr := by
  obtain ⟨P, P', v, v', c1, c2, hd, hp, hp'⟩ := h.ex
  exact ⟨⟨P, P', v, v', c1, c2, hd, fun i hi => by have := hp i hi; omega, fun i hi => by have := hp' i hi; omega⟩, h.r, h.r', h.ok, h.ok', Nat.le_refl _, h.bel⟩
/-- What was made since is none of theirs. -/
theorem Cx.fence {w : World} {b bx : Nat} {L L' : List Mv} {N M : Nat} {wr W : World} (h : Cx w b bx L L' N M wr) (hN : wr.heap.size ≤ N) (k : Below wr.heap.size wr W) : Cx w b bx L L' N W.heap.size W := by
  obtain ⟨P, P', v, v', c1, c2, hd, hp, hp'⟩ := h.ex
  have hz := k.size
  exact ⟨⟨P, P', v, v', c1.below k, c2.below k, hd, fun i hi => by have := hp i hi; omega, fun i hi => by have := hp' i hi; omega⟩, h.r, h.r', h.ok, h.ok', Nat.le_refl _, h.bel.trans (k.mono h.bel.size)⟩
theorem Cx.swap {w : World} {b bx : Nat} {L L' : List Mv} {N M : Nat} {wr : World} (h : Cx w b bx L L' N M wr) : Cx w bx b L' L N M wr := by
  obtain ⟨P, P', v, v', c1, c2, hd, hp, hp'⟩ := h.ex
  exact ⟨⟨P', P, v', v, c2, c1, fun i q1 q2 => hd i q2 q1, hp', hp⟩, h.r', h.r, h.ok', h.ok, h.top, h.bel⟩
/-- The first chain was changed. -/
theorem Cx.turn {w : World} {b bx : Nat} {L L' L1 : List Mv} {N M : Nat} {wr W : World} {P : Nat → Prop} {v v1 : Value} (h : Cx w b bx L L' N M wr) (c1 : Ch P wr b v L) (hp : ∀ i, P i → w.heap.size ≤ i ∧ i < wr.heap.size ∧ (i < N ∨ M ≤ i))
    (hx : ∃ (P' : Nat → Prop) (v' : Value), Ch P' wr bx v' L' ∧ (∀ i, P i → P' i → False) ∧ (∀ i, P' i → w.heap.size ≤ i ∧ i < wr.heap.size ∧ (i < N ∨ M ≤ i)))
    (hc : Ch (fun i => P i ∨ (wr.heap.size ≤ i ∧ i < W.heap.size)) W b v1 L1) (hb : But (FootC b v) wr W) (hr : Rise (L1.map Mv.v)) (hok : ∀ x ∈ L1, x.v.ok = true) : Cx w b bx L1 L' N M W ∧ But (fun i => w.heap.size ≤ i ∧ (i < N ∨ M ≤ i)) wr W := by
  obtain ⟨P', v', c2, hd, hp'⟩ := hx
  have hf : ∀ i, FootC b v i → P i := fun i hi => by
    rcases hi with rfl | hi
    · exact c1.pb
    · exact c1.pv i hi
  have hz := hb.size
  have ht := h.top
  have hs := h.bel.size
  exact ⟨⟨⟨_, P', v1, v', hc, c2.but hb (fun i hi hq => hd i (hf i hq) hi), fun i q1 q2 => by
    rcases q1 with q | q
    · exact hd i q q2
    · have := (hp' i q2).2; omega, fun i q => by
    rcases q with q | q
    · have := hp i q; omega
    · omega, fun i q => by have := hp' i q; omega⟩, hr, h.r', hok, h.ok', Nat.le_trans ht hz, h.bel.trans (hb.below (fun i hi => (hp i (hf i hi)).1) hs)⟩, hb.mono (fun i _ hi => ⟨(hp i (hf i hi)).1, (hp i (hf i hi)).2.2⟩)⟩
/-- What Put leaves of both. -/
def PutX (w : World) (b bx : Nat) (L L' : List Mv) (N M : Nat) (m : Mv) (wr w' : World) (e : Ending) : Prop := e = .returned (.int .i64 (putE (L.map Mv.v) m.v)) ∧ ∃ L1, Cx w b bx L1 L' N M w' ∧ L1.map Mv.v = (if putE (L.map Mv.v) m.v = 0 then putL (L.map Mv.v) m.v else L.map Mv.v) ∧ But (fun i => w.heap.size ≤ i ∧ (i < N ∨ M ≤ i)) wr w'
theorem putX {w : World} {b bx : Nat} {L L' : List Mv} {N M : Nat} {wr w' : World} {m : Mv} {e : Ending} {P : Nat → Prop} {v : Value} (h : Cx w b bx L L' N M wr) (c1 : Ch P wr b v L) (hp : ∀ i, P i → w.heap.size ≤ i ∧ i < wr.heap.size ∧ (i < N ∨ M ≤ i))
    (hx : ∃ (P' : Nat → Prop) (v' : Value), Ch P' wr bx v' L' ∧ (∀ i, P i → P' i → False) ∧ (∀ i, P' i → w.heap.size ≤ i ∧ i < wr.heap.size ∧ (i < N ∨ M ≤ i))) (ha : PutAns P b v L m wr w' e) : PutX w b bx L L' N M m wr w' e := by
  rcases ha with ⟨hne, rfl, hb⟩ | ⟨h0, rfl, v1, L1, hc, hm, hb⟩
  · exact ⟨rfl, L, h.below hb, by rw [if_neg hne], But.of_below hb⟩
  · have hq := putE_ok h0
    have hr1 : Rise (L1.map Mv.v) := by rw [hm]; exact rise_put h.r hq.2
    have hk1 : ∀ x ∈ L1, x.v.ok = true := fun x hx1 => by
      have h2 := List.mem_map_of_mem (f := Mv.v) hx1
      rw [hm] at h2
      rcases putL_mem.1 h2 with q | q
      · rw [q]; exact hq.1
      · obtain ⟨y, hy, e⟩ := List.mem_map.1 q
        rw [← e]
        exact h.ok y hy
    have ht := h.turn c1 hp hx hc hb hr1 hk1
    exact ⟨by rw [h0], L1, ht.1, by rw [if_pos h0]; exact hm, ht.2⟩
theorem cx_put {w : World} {b bx : Nat} {L L' : List Mv} {N M : Nat} {wr : World} (m : Mv) (h : Cx w b bx L L' N M wr) (hl : L.length ≤ 1000000) (hm : m.At (fun _ => True) wr) :
    Calls Try.prog 15 #[.pointer (some ⟨b, 0, none⟩), m.val] wr fun e w' => PutX w b bx L L' N M m wr w' e := by
  obtain ⟨P, P', v, v', c1, c2, hd, hp, hp'⟩ := h.ex
  exact (ch_put P b v L m wr c1 h.r hl hm).mono fun e w' ha => putX h c1 hp ⟨P', v', c2, hd, hp'⟩ ha
theorem cx_rput {w : World} {b bx : Nat} {L L' : List Mv} {N M : Nat} {wr : World} (m : Mv) (h : Cx w b bx L L' N M wr) (hl : L'.length ≤ 1000000) (hm : m.At (fun _ => True) wr) :
    Calls Try.prog 16 #[.pointer (some ⟨bx, 0, none⟩), m.val] wr fun e w' => PutX w bx b L' L N M m wr w' e := by
  obtain ⟨P, P', v, v', c1, c2, hd, hp, hp'⟩ := h.ex
  exact (ref_put P' bx v' L' m wr c2 h.r' hl hm).mono fun e w' ha => putX h.swap c2 hp' ⟨P, v, c1, fun i q1 q2 => hd i q2 q1, hp⟩ ha
/-- What Trim leaves of both. -/
def TrimX (w : World) (b bx : Nat) (L L' : List Mv) (N M : Nat) (t : Int × Int) (wr w' : World) (e : Ending) : Prop := e = .returned (.int .i64 (cutM (L.map Mv.v) t : Nat)) ∧ Cx w b bx (L.drop (cutM (L.map Mv.v) t)) L' N M w' ∧ But (fun i => w.heap.size ≤ i ∧ (i < N ∨ M ≤ i)) wr w'
theorem drop_ok {L : List Mv} {n : Nat} (h : ∀ x ∈ L, x.v.ok = true) : ∀ x ∈ L.drop n, x.v.ok = true := fun x hx => h x (List.mem_of_mem_drop hx)
theorem cx_trim {w : World} {b bx : Nat} {L L' : List Mv} {N M : Nat} {wr : World} (tm tc : Int) (h : Cx w b bx L L' N M wr) (hl : L.length ≤ 1000000) (hw : (Lit.int .i64 tm).wf = true) :
    Calls Try.prog 26 #[.pointer (some ⟨b, 0, none⟩), .agg #[.int .i64 tm, .int .i64 tc]] wr fun e w' => TrimX w b bx L L' N M (tm, tc) wr w' e := by
  obtain ⟨P, P', v, v', c1, c2, hd, hp, hp'⟩ := h.ex
  refine (ch_trim_any P b v L tm tc wr c1 hl h.r h.ok hw).mono fun e w' ⟨he, v1, hc, hb⟩ => ⟨he, h.turn c1 hp ⟨P', v', c2, hd, hp'⟩ (hc.mono (fun i _ hi => .inl hi)) hb ?_ (drop_ok h.ok)⟩
  rw [List.map_drop]
  exact rise_drop h.r _
theorem cx_rtrim {w : World} {b bx : Nat} {L L' : List Mv} {N M : Nat} {wr : World} (tm tc : Int) (h : Cx w b bx L L' N M wr) (hl : L'.length ≤ 1000000) (hw : (Lit.int .i64 tm).wf = true) :
    Calls Try.prog 27 #[.pointer (some ⟨bx, 0, none⟩), .agg #[.int .i64 tm, .int .i64 tc]] wr fun e w' => TrimX w bx b L' L N M (tm, tc) wr w' e := by
  obtain ⟨P, P', v, v', c1, c2, hd, hp, hp'⟩ := h.ex
  refine (ref_trim_any P' bx v' L' tm tc wr c2 hl h.r' h.ok' hw).mono fun e w' ⟨he, v1, hc, hb⟩ => ⟨he, h.swap.turn c2 hp' ⟨P, v, c1, fun i q1 q2 => hd i q2 q1, hp⟩ hc hb ?_ (drop_ok h.ok')⟩
  rw [List.map_drop]
  exact rise_drop h.r' _
theorem cx_at {w : World} {b bx : Nat} {L L' : List Mv} {N M : Nat} {wr : World} (tm tc : Int) (h : Cx w b bx L L' N M wr) (hl : L.length ≤ 1000000) :
    Calls Try.prog 21 #[.pointer (some ⟨b, 0, none⟩), .agg #[.int .i64 tm, .int .i64 tc]] wr fun e w' => AtAns L (tm, tc) wr w' e := by
  obtain ⟨P, P', v, v', c1, c2, hd, hp, hp'⟩ := h.ex
  exact ch_at P b v L tm tc wr c1 hl h.r h.ok
theorem cx_get {w : World} {b bx : Nat} {L L' : List Mv} {N M : Nat} {wr : World} (tm tc : Int) (h : Cx w b bx L L' N M wr) (hl : L.length ≤ 1000000) (hw : (Lit.int .i64 tm).wf = true) :
    Calls Try.prog 23 #[.pointer (some ⟨b, 0, none⟩), .agg #[.int .i64 tm, .int .i64 tc]] wr fun e w' => GetAns L (tm, tc) wr w' e := by
  obtain ⟨P, P', v, v', c1, c2, hd, hp, hp'⟩ := h.ex
  exact ch_get P b v L tm tc wr c1 hl h.r h.ok hw
theorem cx_rat {w : World} {b bx : Nat} {L L' : List Mv} {N M : Nat} {wr : World} (tm tc : Int) (h : Cx w b bx L L' N M wr) (hl : L'.length ≤ 1000000) :
    Calls Try.prog 22 #[.pointer (some ⟨bx, 0, none⟩), .agg #[.int .i64 tm, .int .i64 tc]] wr fun e w' => RefAt L' (tm, tc) wr w' e := by
  obtain ⟨P, P', v, v', c1, c2, hd, hp, hp'⟩ := h.ex
  exact ref_at P' bx v' L' tm tc wr c2 hl h.r'
theorem cx_rget {w : World} {b bx : Nat} {L L' : List Mv} {N M : Nat} {wr : World} (tm tc : Int) (h : Cx w b bx L L' N M wr) (hl : L'.length ≤ 1000000) (hw : (Lit.int .i64 tm).wf = true) :
    Calls Try.prog 24 #[.pointer (some ⟨bx, 0, none⟩), .agg #[.int .i64 tm, .int .i64 tc]] wr fun e w' => RefGet L' (tm, tc) wr w' e := by
  obtain ⟨P, P', v, v', c1, c2, hd, hp, hp'⟩ := h.ex
  exact ref_get P' bx v' L' tm tc wr c2 hl h.r' h.ok' hw
theorem cx_all {w : World} {b bx : Nat} {L L' : List Mv} {N M : Nat} {wr : World} (h : Cx w b bx L L' N M wr) (hl : L.length ≤ 1000000) :
    Calls Try.prog 28 #[.pointer (some ⟨b, 0, none⟩)] wr fun e w' => AllPost L wr w' e := by
  obtain ⟨P, P', v, v', c1, c2, hd, hp, hp'⟩ := h.ex
  exact ch_all P b v L wr c1 hl (fun x hx => by have := (ok_bd (h.ok x hx)).2.2.2.2.2.2.1; omega)
def zV : Vs := ⟨0, 0, 0, [], false, 0⟩
def atU (l : List Vs) (t : Int × Int) : Vs × Bool := match atM l t with | some x => (x, true) | none => (zV, false)
def getU (l : List Vs) (t : Int × Int) : List Int × Bool := match getM l t with | some x => (x.val, true) | none => ([], false)
theorem zV_at (c : Nat) (w : World) : (Mv.mk zV none 0).At (fun _ => True) w := ⟨ByL.nil _ _, fun _ => rfl, fun h => absurd h (by simp [zV]), isBy_nil⟩
theorem own_at {w : World} {base : Nat} {x : Vs} {A : Option Addr} {c : Nat} (h : w.ownsRow base 5 1 (.slice A x.val.length c) x.val.length (bC x.val)) (hy : isBy x.val) : (Mv.mk x A c).At (fun _ => True) w := by
  obtain ⟨A9, c9, e9, _, hby9, hn9, _⟩ := own8_shape h
  injection e9 with e1 _ _
  exact ⟨by rw [e1]; exact hby9, fun e => hn9 (e1 ▸ e), fun _ _ _ => trivial, hy⟩
theorem cx_atU {w : World} {b bx : Nat} {L L' : List Mv} {N M : Nat} {wr : World} (tm tc : Int) (h : Cx w b bx L L' N M wr) (hl : L.length ≤ 1000000) :
    Calls Try.prog 21 #[.pointer (some ⟨b, 0, none⟩), .agg #[.int .i64 tm, .int .i64 tc]] wr fun e w' => ∃ m, e = .returned (.tuple #[Mv.val m, .bool (atU (L.map Mv.v) (tm, tc)).2]) ∧ m.v = (atU (L.map Mv.v) (tm, tc)).1 ∧ m.At (fun _ => True) w' ∧ Below wr.heap.size wr w' := by
  have hy : ∀ m ∈ L, isBy m.v.val := fun m hm => by
    obtain ⟨P, P', v, v', c1, _⟩ := h.ex
    exact (c1.ats m hm).y
  refine (cx_at tm tc h hl).mono ?_
  rintro e w' (⟨hn, rfl, k⟩ | ⟨x, hx, ha, A, c, rfl, ho, k⟩)
  · exact ⟨⟨zV, none, 0⟩, by simp [atU, hn, zV], by simp [atU, hn], zV_at 0 _, k⟩
  · exact ⟨⟨x.v, A, c⟩, by simp [atU, ha], by simp [atU, ha], own_at ho (hy x hx), k⟩
theorem cx_ratU {w : World} {b bx : Nat} {L L' : List Mv} {N M : Nat} {wr : World} (tm tc : Int) (h : Cx w b bx L L' N M wr) (hl : L'.length ≤ 1000000) :
    Calls Try.prog 22 #[.pointer (some ⟨bx, 0, none⟩), .agg #[.int .i64 tm, .int .i64 tc]] wr fun e w' => ∃ m, e = .returned (.tuple #[Mv.val m, .bool (atU (L'.map Mv.v) (tm, tc)).2]) ∧ m.v = (atU (L'.map Mv.v) (tm, tc)).1 ∧ m.At (fun _ => True) w' ∧ Below wr.heap.size wr w' := by
  have hy : ∀ m ∈ L', m.At (fun _ => True) wr := fun m hm => by
    obtain ⟨P, P', v, v', _, c2, _⟩ := h.ex
    exact (c2.ats m hm).mono (fun _ _ _ => trivial)
  refine (cx_rat tm tc h hl).mono ?_
  rintro e w' (⟨hn, rfl, k⟩ | ⟨x, hx, ha, rfl, k⟩)
  · exact ⟨⟨zV, none, 0⟩, by simp [atU, hn, zV], by simp [atU, hn], zV_at 0 _, k⟩
  · exact ⟨x, by simp [atU, ha], by simp [atU, ha], (hy x hx).below k, k⟩
theorem cx_getU {w : World} {b bx : Nat} {L L' : List Mv} {N M : Nat} {wr : World} (tm tc : Int) (h : Cx w b bx L L' N M wr) (hl : L.length ≤ 1000000) (hw : (Lit.int .i64 tm).wf = true) :
    Calls Try.prog 23 #[.pointer (some ⟨b, 0, none⟩), .agg #[.int .i64 tm, .int .i64 tc]] wr fun e w' => ∃ A c, e = .returned (.tuple #[.slice A (getU (L.map Mv.v) (tm, tc)).1.length c, .bool (getU (L.map Mv.v) (tm, tc)).2]) ∧ w'.ownsRow wr.heap.size 5 1 (.slice A (getU (L.map Mv.v) (tm, tc)).1.length c) (getU (L.map Mv.v) (tm, tc)).1.length (bC (getU (L.map Mv.v) (tm, tc)).1) ∧ Below wr.heap.size wr w' := by
  refine (cx_get tm tc h hl hw).mono ?_
  rintro e w' (⟨hn, rfl, k⟩ | ⟨x, hx, ha, v, rfl, ho, k⟩)
  · refine ⟨none, 0, by simp [getU, hn], ?_, k⟩
    simp only [getU, hn]
    exact World.ownsRow_nil _ _ _ _
  · obtain ⟨A9, c9, e9, _⟩ := own8_shape ho
    subst e9
    refine ⟨A9, c9, by simp [getU, ha], ?_, k⟩
    simp only [getU, ha]
    exact ho
theorem cx_rgetU {w : World} {b bx : Nat} {L L' : List Mv} {N M : Nat} {wr : World} (tm tc : Int) (h : Cx w b bx L L' N M wr) (hl : L'.length ≤ 1000000) (hw : (Lit.int .i64 tm).wf = true) :
    Calls Try.prog 24 #[.pointer (some ⟨bx, 0, none⟩), .agg #[.int .i64 tm, .int .i64 tc]] wr fun e w' => ∃ A c, e = .returned (.tuple #[.slice A (getU (L'.map Mv.v) (tm, tc)).1.length c, .bool (getU (L'.map Mv.v) (tm, tc)).2]) ∧ ByL w' A (getU (L'.map Mv.v) (tm, tc)).1 ∧ Below wr.heap.size wr w' := by
  have hy : ∀ m ∈ L', m.At (fun _ => True) wr := fun m hm => by
    obtain ⟨P, P', v, v', _, c2, _⟩ := h.ex
    exact (c2.ats m hm).mono (fun _ _ _ => trivial)
  refine (cx_rget tm tc h hl hw).mono ?_
  rintro e w' (⟨hn, rfl, k⟩ | ⟨x, hx, ha, rfl, k⟩)
  · refine ⟨none, 0, by simp [getU, hn], ?_, k⟩
    simp only [getU, hn]
    exact ByL.nil _ _
  · refine ⟨x.A, x.c, by simp [getU, ha], ?_, k⟩
    simp only [getU, ha]
    exact (hy x hx).b.below k
/-- The reference's row, as it is loaded. -/
theorem Cx.rrow {w : World} {b bx : Nat} {L L' : List Mv} {N M : Nat} {wr : World} (h : Cx w b bx L L' N M wr) : ∃ A c, wr.cell? ⟨bx, 0, none⟩ = some (.slice A L'.length c) ∧ RowA wr A L' ∧ (∀ m ∈ L', m.At (fun _ => True) wr) ∧ bx < wr.heap.size := by
  obtain ⟨P, P', v, v', c1, c2, hd, hp, hp'⟩ := h.ex
  obtain ⟨A, c, rfl⟩ := c2.shape
  refine ⟨A, c, c2.c0, fun h0 => ?_, fun m hm => (c2.ats m hm).mono (fun _ _ _ => trivial), c2.lt⟩
  have hr := c2.row
  rcases hr.2 with ⟨e, h00⟩ | ⟨g, cap, cur, e, _⟩
  · omega
  · injection e with e1 e2 e3
    subst e1
    refine ⟨g, 0, rfl, (World.ownsRow.lt hr g rfl).2, fun j u hu => ?_⟩
    have := hr.cells (g := g) rfl j u hu
    rwa [at_add] at this
set_option maxRecDepth 100000 in
set_option maxHeartbeats 4000000 in
theorem spoil_nil (w : World) : Calls Try.prog 20 #[.slice none 0 0] w fun e w' => e = .returned (.tuple #[]) ∧ But (fun _ => False) w w' := by
  obtain ⟨i0, hi0, hz0, hz1, hz2⟩ := info_parts u8_info
  go_enter Try.func20, Try.ntmps20
  go_wp2_with (at_builtin; refine wpList_append_lies _ rfl (.tmp 4) (.tmp 5) _ rfl w.heap.size 5 i0 _ 1 1 Try.underlying26 hi0 hz0 hz1 hz2 rfl (by decide) (.slice none 0 0) 0 [] rfl (World.ownsRow_nil _ _ _ _) ⟨w.heap.size, 0, none⟩ 1 1 [.int .u8 99] rfl rfl (World.news_of_block (cs := #[.int .u8 99]) (t := 5) (fr := (0, 0)) (heap_alloc_new w _)) (by simp [Value.oneCell']) (by omega) (by unfold maxLen; omega) (by simp) (by simp) _ rfl ?_; intro g2 cap2 w2 hown2 hg2 hat2 hlt2)
  obtain ⟨cur, hh, hcs, hnc, hcm, _⟩ := row_block hown2
  have HB : Hid (But (fun _ => False) w w2) := Lib.hid ((But.of_below (S := fun _ => False) ((Below.refl w.heap.size w).alloc (Nat.le_refl _) (.cells #[.int .u8 99] 5))).trans (But.of_grown (S := fun _ => False) hg2 (fun k hk => by simp [Value.ownBlock] at hk)) (fun _ _ hf => hf))
  have HAT : Hid (w.heap.size ≤ g2) := Lib.hid (World.ownsRow.lt hown2 g2 rfl).1
  have H0 : Hid (∃ cur, w2.heap[g2]? = some (.cells cur 5 (0, 0)) ∧ cur.size = cap2 * 1) := Lib.hid ⟨cur, hh, hcs⟩
  clear hown2 hg2 hat2 hh hcs
  go_loopw [3] (fun i wr => ∃ k : Nat, k ≤ 1 ∧ i = .int .i64 k ∧ But (fun _ => False) w wr ∧ ∃ cur, wr.heap[g2]? = some (.cells cur 5 (0, 0)) ∧ cur.size = cap2 * 1) (fun i _ => 1 - (intOf i).toNat)
  case atStart => exact ⟨0, Nat.zero_le _, rfl, HB.out, H0.out⟩
  case round =>
    obtain ⟨k, hk, rfl, hB, cur', hh, hcs⟩ := hrel
    clear H0 HB
    by_cases hlt : k < 1
    · obtain rfl : k = 0 := by omega
      obtain ⟨h1, h2⟩ := row_there (w := wr) hh hcs (j := 0) (by omega)
      obtain ⟨v, hv⟩ := Option.isSome_iff_exists.1 h1
      have HH2 : Hid (But (fun _ => False) w (wr.setCell ⟨g2, 0, none⟩ (.int .u8 98)) ∧ ∃ cur, (wr.setCell ⟨g2, 0, none⟩ (.int .u8 98)).heap[g2]? = some (.cells cur 5 (0, 0)) ∧ cur.size = cap2 * 1) := Lib.hid ⟨hB.setCell (fun hl => absurd hl (by have := HAT.out; simp; omega)) _, _, heap_setCell1 hh _, by simpa using hcs⟩
      clear hB hh hcs h1
      go_wp2
      go_roundw
      case rel => exact ⟨1, by omega, by go_num, HH2.out⟩
      case measure => simp [intOf]
    · obtain rfl : k = 1 := by omega
      have HB2 := Lib.hid hB
      clear hB hh hcs
      go_wp2
      exact bodyPost_end (by simp [results, Try.results20, go_sem]) rfl ⟨rfl, HB2.out⟩
/-- Bytes of one's own are written over: nothing else is changed. -/
theorem spoil_own (v : Value) (n base : Nat) (xs : List Value) (w : World) (h : w.ownsRow base 5 1 v n xs) (hb : base ≤ w.heap.size) (hn : n ≤ 100000) :
    Calls Try.prog 20 #[v] w fun e w' => e = .returned (.tuple #[]) ∧ But (fun i => v.ownBlock = some i) w w' := by
  rcases h.2 with ⟨e, h0⟩ | ⟨g, cap, cur, e, _⟩
  · subst e
    exact (spoil_nil w).mono fun e w' ⟨h1, h2⟩ => ⟨h1, h2.mono (fun _ _ hf => hf.elim)⟩
  · subst e
    exact (spoil14 g n cap base xs w h hb hn).mono fun e w' ⟨h1, h2⟩ => ⟨h1, h2.mono (fun i _ hi => by rw [hi]; rfl)⟩
end Go.Proofs.Ytfjnjababehmmaa

/- Arguments that are rows of structs, of whatever shape: one theorem for all. -/
namespace Go.Proofs.Ytfjnjababehmmaa
open Go.ChangeShapes Go.WideShapes Go.ChangeAt Go.RowKit Go.Joins Go.Deep

theorem fm_len {α : Type} (f : α → List Value) (m : Nat) (hm : ∀ x, (f x).length = m) : ∀ L : List α, (L.flatMap f).length = L.length * m
  | [] => by simp
  | a :: t => by
    rw [List.flatMap_cons, List.length_append, hm, fm_len f m hm t, List.length_cons, Nat.add_mul]
    omega
theorem fm_at {α : Type} (f : α → List Value) (m : Nat) (hm : ∀ x, (f x).length = m) {L : List α} {k : Nat} {x : α} (h : L[k]? = some x) (j : Nat) (hj : j < m) : (L.flatMap f)[k * m + j]? = (f x)[j]? := by
  have hk : k < L.length := (List.getElem?_eq_some_iff.1 h).1
  have e : L = L.take k ++ x :: L.drop (k + 1) := by
    have h2 : L[k] = x := by have := List.getElem?_eq_getElem hk; rw [this] at h; injection h
    conv => lhs; rw [← List.take_append_drop k L]
    rw [List.drop_eq_getElem_cons hk, h2]
  have hl : ((L.take k).flatMap f).length = k * m := by rw [fm_len f m hm, List.length_take, show min k L.length = k from by omega]
  rw [e, List.flatMap_append, List.getElem?_append_right (by rw [hl]; omega), hl, show k * m + j - k * m = j from by omega, List.flatMap_cons, List.getElem?_append_left (by rw [hm]; exact hj)]
/-- Structs of m cells at an address. -/
def RowG {α : Type} (f : α → List Value) (w : World) (A : Option Addr) (L : List α) : Prop := 0 < L.length → ∃ B O, A = some ⟨B, O, none⟩ ∧ B < w.heap.size ∧ ∀ j u, (L.flatMap f)[j]? = some u → w.cell? ⟨B, O + j, none⟩ = some u
theorem RowG.below {α : Type} {f : α → List Value} {w w' : World} {A : Option Addr} {L : List α} (h : RowG f w A L) (k : Below w.heap.size w w') : RowG f w' A L := by
  intro h0
  obtain ⟨B, O, rfl, hB, hc⟩ := h h0
  exact ⟨B, O, rfl, Nat.lt_of_lt_of_le hB k.size, fun j u hu => (k.cell (p := ⟨B, O + j, none⟩) hB).trans (hc j u hu)⟩
theorem weightsAll_memG {H : Type} {P : Program} {e : TypeId} : ∀ {ds : List (DataW H)} {d : DataW H}, d ∈ ds → ∀ n ∈ d.weights P e, n ∈ DataW.weightsAll P e ds
  | [], _, h, _, _ => by cases h
  | d' :: r, d, h, n, hn => by
    rw [DataW.weightsAll]
    rcases List.mem_cons.1 h with rfl | h
    · exact List.mem_append_left _ hn
    · exact List.mem_append_right _ (weightsAll_memG h n hn)
/-- A slice of structs, as it is trod: f tells a struct's cells, Q what is known of each, Z what the weights bound. -/
theorem rows_trod {H : Type} {enc : TypeId × Value → H} {w : World} {base : Nat} {sp : Nat → Bool} {t e : TypeId} {α : Type} (f : α → List Value) (m : Nat) (hm0 : 0 < m) (hm : ∀ x, (f x).length = m) (hu : Try.prog.underlying t = some (.slice e)) (he : Try.prog.cellsOf e = m) (Q : α → Prop) (Z : α → Nat → Prop) (dflt : α)
    (helem : ∀ (fuel : Nat) (cs : List Value) (x : DataW H × List MemPlace), cs.length = m → DataW.trod enc Try.prog w base sp true fuel e cs = some x → ∃ a : α, cs = f a ∧ Q a ∧ (∀ M, (∀ n ∈ x.1.weights Try.prog e, n ≤ M) → Z a M))
    {fuel : Nat} {cs : List Value} {x : DataW H × List MemPlace} (hf : DataW.trod enc Try.prog w base sp true fuel t cs = some x) :
    ∃ (L : List α) (A : Option Addr) (c : Nat), cs = [.slice A L.length c] ∧ L.length ≤ c ∧ c ≤ maxLen ∧ RowG f w A L ∧ (∀ a ∈ L, Q a) ∧ (A = none → L.length = 0) ∧ (∀ M, (∀ n ∈ x.1.weights Try.prog t, n ≤ M) → ∀ a ∈ L, Z a M) := by
  rcases Go.Deep.open_slice hu hf with ⟨hcs, _⟩ | ⟨a, len, cap, mm, k, D, Pl, hcs, _, hl, hmx, hmm, hx, hi⟩
  · exact ⟨[], none, 0, hcs, by simp, by unfold maxLen; omega, (fun h => absurd h (by simp)), fun m hm => (by cases hm), fun _ => rfl, fun M _ m hm => (by cases hm)⟩
  · rw [he] at hi
    have hlm : len ≤ mm := by rw [hmm]; split <;> omega
    have hex : ∀ i, ∃ b : α, i < len → (∀ j u, (f b)[j]? = some u → w.cell? ((a.add (i * m)).add j) = some u) ∧ Q b ∧ (∀ M, (∀ n ∈ (D i).weights Try.prog e, n ≤ M) → Z b M) := fun i => by
      by_cases hil : i < len
      · obtain ⟨cs', hc, ht⟩ := hi i (by omega)
        obtain ⟨_, hcl, hat⟩ := World.cells?_some hc
        obtain ⟨b, hb, hq, hz⟩ := helem _ _ _ hcl ht
        refine ⟨b, fun _ => ⟨fun j u hu => ?_, hq, hz⟩⟩
        have hj : j < m := by
          have := (List.getElem?_eq_some_iff.1 hu).1
          rwa [hm] at this
        rw [hat j hj, hb]
        exact hu
      · exact ⟨dflt, fun h => absurd h hil⟩
    have hF : ∃ F : Nat → α, ∀ i, i < len → (∀ j u, (f (F i))[j]? = some u → w.cell? ((a.add (i * m)).add j) = some u) ∧ Q (F i) ∧ (∀ M, (∀ n ∈ (D i).weights Try.prog e, n ≤ M) → Z (F i) M) := ⟨fun i => Classical.choose (hex i), fun i => Classical.choose_spec (hex i)⟩
    obtain ⟨F, hF⟩ := hF
    have hLl : ((List.range len).map F).length = len := by simp
    have hLa : ∀ i, i < len → ((List.range len).map F)[i]? = some (F i) := fun i hi => by simp [hi]
    refine ⟨(List.range len).map F, some a, cap, by rw [hLl]; exact hcs, by rw [hLl]; omega, by omega, fun h0 => ?_, fun b hb => ?_, (fun e => by cases e), fun M hM b hb => ?_⟩
    · rw [hLl] at h0
      obtain ⟨B, O, spot⟩ := a
      have h01 : (f (F 0))[0]? = some ((f (F 0))[0]'(by rw [hm]; exact hm0)) := List.getElem?_eq_getElem _
      have h00 := (hF 0 h0).1 0 _ h01
      have hspot : spot = none := by simpa [Addr.add] using World.cell?_spot h00
      subst hspot
      rw [add_plain, add_plain] at h00
      refine ⟨B, O, rfl, cell_lt' h00, fun j u hu => ?_⟩
      have hj : j < len * m := by
        have := (List.getElem?_eq_some_iff.1 hu).1
        rwa [fm_len f m hm, hLl] at this
      have hk : j / m < len := Nat.div_lt_of_lt_mul (by rw [Nat.mul_comm]; exact hj)
      have hr : j % m < m := Nat.mod_lt _ hm0
      have hej : j / m * m + j % m = j := by rw [Nat.mul_comm]; exact Nat.div_add_mod j m
      have h2 := fm_at f m hm (hLa (j / m) hk) (j % m) hr
      rw [hej] at h2
      rw [h2] at hu
      have h3 := (hF (j / m) hk).1 (j % m) u hu
      rw [add_plain, add_plain, Nat.add_assoc, hej] at h3
      exact h3
    · obtain ⟨i, hi', rfl⟩ := List.mem_map.1 hb
      exact (hF i (List.mem_range.1 hi')).2.1
    · obtain ⟨i, hi', rfl⟩ := List.mem_map.1 hb
      have hil := List.mem_range.1 hi'
      refine (hF i hil).2.2 M (fun n hn => hM n ?_)
      rw [hx]
      simp only [DataW.weights, hu]
      exact List.mem_cons_of_mem _ (List.mem_append_left _ (weightsAll_memG (List.mem_map.2 ⟨i, List.mem_range.2 hil, rfl⟩) n hn))
set_option maxRecDepth 100000 in
theorem open_rows {H : Type} {enc : TypeId × Value → H} {w : World} {r : Reach} {b0 base : Nat} {sp : Nat → Bool} {t e : TypeId} {v : Value} {d : DataW H} {p : List MemPlace} {α : Type} (f : α → List Value) (m : Nat) (hm0 : 0 < m) (hm : ∀ x, (f x).length = m) (hu : Try.prog.underlying t = some (.slice e)) (he : Try.prog.cellsOf e = m) (Q : α → Prop) (Z : α → Nat → Prop) (dflt : α)
    (helem : ∀ (fuel : Nat) (cs : List Value) (x : DataW H × List MemPlace), cs.length = m → DataW.trod enc Try.prog w base sp true fuel e cs = some x → ∃ a : α, cs = f a ∧ Q a ∧ (∀ M, (∀ n ∈ x.1.weights Try.prog e, n ≤ M) → Z a M))
    (hv : Value.okWide Try.prog w r b0 t v) (h : DataW.Trod enc Try.prog w base sp true t v d p) :
    ∃ (L : List α) (A : Option Addr) (c : Nat), v = .slice A L.length c ∧ L.length ≤ c ∧ c ≤ maxLen ∧ RowG f w A L ∧ (∀ a ∈ L, Q a) ∧ (A = none → L.length = 0) ∧ (∀ M, (∀ n ∈ d.weights Try.prog t, n ≤ M) → ∀ a ∈ L, Z a M) := by
  obtain ⟨a0, len, cap, rfl⟩ := okWide_slice hu hv
  obtain ⟨fuel, hf⟩ := h
  obtain ⟨L, A, c, hcs, h1, h2, h3, h4, h5, h6⟩ := rows_trod f m hm0 hm hu he Q Z dflt helem hf
  simp [Value.cells] at hcs
  obtain ⟨rfl, rfl, rfl⟩ := hcs
  exact ⟨L, _, _, rfl, h1, h2, h3, h4, h5, h6⟩
theorem sized_eachG {H : Type} {P : Program} {ts : List TypeId} {ds : List (DataW H)} (h : (DataW.weightsEach P ts ds).all (· ≤ reachBytes) = true) {j : Nat} {t : TypeId} {d : DataW H} (ht : ts[j]? = some t) (hd : ds[j]? = some d) : ∀ n ∈ d.weights P t, n ≤ reachBytes := fun n hn => by
  simpa using List.all_eq_true.1 h n (DataW.weights_mem_each ht hd n hn)
end Go.Proofs.Ytfjnjababehmmaa

/- Stage 15: ChainPlays: every script of a chain, each answer, and all versions (written by gen/s15p.py). -/
namespace Go.Proofs.Ytfjnjababehmmaa
open Go.RowKit Go.Sort

structure XB (W : World) (B : Nat) (vs : List Value) : Prop where
  c : ∀ (j : Nat) u, vs[j]? = some u → W.cell? ⟨B, j, none⟩ = some u
  fz : ∀ o, W.frozen? ⟨B, o, none⟩ = false
  lt : B < W.heap.size
theorem XB.but {S : Nat → Prop} {W W' : World} {B : Nat} {vs : List Value} (h : XB W B vs) (k : But S W W') (hs : ¬ S B) : XB W' B vs :=
  ⟨fun j u hu => (k.cell B j h.lt hs).trans (h.c j u hu), fun o => (k.frozen B o h.lt hs).trans (h.fz o), Nat.lt_of_lt_of_le h.lt k.size⟩
theorem XB.below {W W' : World} {B : Nat} {vs : List Value} (h : XB W B vs) (k : Below W.heap.size W W') : XB W' B vs := h.but (S := fun _ => False) (But.of_below k) (fun hf => hf)
theorem XB.only {W W' : World} {B b : Nat} {vs : List Value} (h : XB W B vs) (k : Only b W W') (hn : B ≠ b) : XB W' B vs := h.but (S := fun i => i = b) (But.of_only k rfl) hn
theorem XB.new (W : World) (cs : Array Value) (t : TypeId) : XB (W.alloc (.cells cs t)) W.heap.size cs.toList :=
  ⟨fun j u hu => by rw [World.cell?_alloc_new]; simpa using hu, fun o => by simp, by simp⟩
theorem XB.set {W : World} {B : Nat} {vs : List Value} (h : XB W B vs) (i : Nat) (hi : i < vs.length) (u : Value) : XB (W.setCell ⟨B, i, none⟩ u) B (vs.set i u) := by
  refine ⟨fun j v hv => ?_, fun o => by simpa using h.fz o, by simpa [World.setCell] using h.lt⟩
  by_cases e : i = j
  · subst e
    rw [List.getElem?_set_self (by omega)] at hv
    injection hv with hv
    subst hv
    exact World.cell?_setCell_same _ _ _ (h.c i vs[i] (List.getElem?_eq_getElem hi))
  · rw [List.getElem?_set_ne e] at hv
    rw [World.cell?_setCell_other _ _ _ _ (fun q => e (by injection q))]
    exact h.c j v hv
theorem XB.other {W : World} {B : Nat} {vs : List Value} (h : XB W B vs) {p : Addr} (hp : p.block ≠ B) (u : Value) : XB (W.setCell p u) B vs :=
  ⟨fun j v hv => (World.cell?_setCell_other _ _ _ _ (fun e => hp (by rw [e]))).trans (h.c j v hv), fun o => by simpa using h.fz o, by simpa [World.setCell] using h.lt⟩
/-- An act of the script. -/
structure Ay where
  k : Int
  m : Mv
  t1 : Int
  t2 : Int
def Ay.cs (x : Ay) : List Value := [.int .i64 x.k, .int .i64 x.m.v.ml, .int .i64 x.m.v.ct, .int .i64 x.m.v.vo, .slice x.m.A x.m.v.val.length x.m.c, .bool x.m.v.gone, .int .i64 x.m.v.tt, .int .i64 x.t1, .int .i64 x.t2]
theorem Ay.len (x : Ay) : x.cs.length = 9 := rfl
structure AyIn (w : World) (x : Ay) : Prop where
  m : MvIn w x.m
  t : (Lit.int .i64 x.t1).wf = true
theorem at_below {w W : World} {m : Mv} (h : m.At (fun _ => True) w) (k : Below w.heap.size w W) : m.At (fun _ => True) W := h.below k
theorem cpx_rowA {B : Nat} {W : World} {A : Option Addr} {c : Nat} {M : List Mv} (h : Cps B W (.slice A M.length c) M) : RowA W A M := fun h0 => by
  obtain ⟨g, cap, e, _, _, hg⟩ := row_shape h.row h0
  injection e with e1 e2 e3
  subst e1
  exact ⟨g, 0, rfl, hg, fun j u hu => by rw [Nat.zero_add]; exact row_cell (e3 ▸ h.row) hu⟩
theorem cpx_ats {B : Nat} {W : World} {v : Value} {M : List Mv} (h : Cps B W v M) (hy : ∀ m ∈ M, isBy m.v.val) : ∀ m ∈ M, m.At (fun _ => True) W := fun m hm => by
  obtain ⟨A9, c9, e9, _, hby9, hn9, _⟩ := own8_shape (h.own m hm)
  injection e9 with e1 _ _
  exact ⟨by rw [e1]; exact hby9, fun e => hn9 (e1 ▸ e), fun _ _ _ => trivial, hy m hm⟩
theorem byx_of_map {M M' : List Mv} (h : M.map Mv.v = M'.map Mv.v) (hy : ∀ m ∈ M', isBy m.v.val) : ∀ m ∈ M, isBy m.v.val := fun m hm => by
  have hv : m.v ∈ M'.map Mv.v := by rw [← h]; exact List.mem_map_of_mem hm
  obtain ⟨y, hyy, hyv⟩ := List.mem_map.1 hv
  rw [← hyv]
  exact hy y hyy
theorem rowx_rowA {w : World} {base : Nat} {A : Option Addr} {c : Nat} {M : List Mv} (h : w.ownsRow base 28 6 (.slice A M.length c) M.length (rowV M)) : RowA w A M := fun h0 => by
  obtain ⟨g, cap, e, _, _, hg⟩ := row_shape h h0
  injection e with e1 e2 e3
  subst e1
  exact ⟨g, 0, rfl, hg, fun j u hu => by rw [Nat.zero_add]; exact row_cell (e3 ▸ h) hu⟩
theorem cps_shape {B : Nat} {W : World} {v : Value} {M : List Mv} (h : Cps B W v M) : ∃ A c, v = .slice A M.length c := by
  rcases h.row.2 with ⟨e, h0⟩ | ⟨g, cap, cur, e, _⟩
  · exact ⟨none, 0, by rw [e, h0]⟩
  · exact ⟨_, _, e⟩
theorem Cx.by_ {w : World} {b bx : Nat} {L L' : List Mv} {N M : Nat} {wr : World} (h : Cx w b bx L L' N M wr) : ∀ m ∈ L, isBy m.v.val := fun m hm => by
  obtain ⟨P, P', v, v', c1, _⟩ := h.ex
  exact (c1.ats m hm).y
theorem allx_ok {l : List Vs} (h : (ofM [] l).1 = 0) : ∀ x ∈ (ofM [] l).2, x.ok = true := fun x hx => by
  rcases (ofM_mem h x).1 hx with q | q
  · cases q
  · exact ofM_ok h x q
/-- Two chains that were just laid. -/
theorem cx_new {w w1 w2 : World} {b bx : Nat} {v v' : Value} {L L' : List Mv} {l : List Vs} {N0 : Nat} (hN : w.heap.size ≤ N0) (c1 : Ch (fun i => N0 ≤ i) w1 b v L) (c2 : Ch (fun i => w1.heap.size ≤ i) w2 bx v' L') (k : Below w1.heap.size w1 w2) (hB : Below w.heap.size w w2) (h0 : (ofM [] l).1 = 0) (hr : Rise (ofM [] l).2) (e : L.map Mv.v = (ofM [] l).2) (e' : L'.map Mv.v = (ofM [] l).2) : Cx w b bx L L' w2.heap.size w2.heap.size w2 := by
  have hz := k.size
  have ok1 : ∀ {M : List Mv}, M.map Mv.v = (ofM [] l).2 → ∀ x ∈ M, x.v.ok = true := fun e x hx => allx_ok h0 x.v (by rw [← e]; exact List.mem_map_of_mem hx)
  have c1' := (c1.mono (P' := fun i => N0 ≤ i ∧ i < w1.heap.size) (fun i hi hq => ⟨hq, hi⟩)).below k
  have c2' := c2.mono (P' := fun i => w1.heap.size ≤ i ∧ i < w2.heap.size) (fun i hi hq => ⟨hq, hi⟩)
  have hlt := c1.lt
  have hpb := c1.pb
  exact ⟨⟨_, _, v, v', c1', c2', fun i q1 q2 => by omega, fun i q => by omega, fun i q => by omega⟩, by rw [e]; exact hr, by rw [e']; exact hr, ok1 e, ok1 e', Nat.le_refl _, hB⟩
/-- What Of leaves, once for each way in. -/
def OfCut (w : World) (l : List Vs) (p e : Value) (wx : World) : Prop := Below w.heap.size w wx ∧ (((ofM [] l).1 ≠ 0 ∧ p = .pointer none ∧ e = .int .i64 (ofM [] l).1) ∨ ((ofM [] l).1 = 0 ∧ Rise (ofM [] l).2 ∧ e = .int .i64 0 ∧ ∃ b v L, p = .pointer (some ⟨b, 0, none⟩) ∧ Ch (fun i => w.heap.size ≤ i) wx b v L ∧ L.map Mv.v = (ofM [] l).2 ∧ L.length ≤ l.length))
theorem ofM_bd : ∀ {l acc : List Vs}, 0 ≤ (ofM acc l).1 ∧ (ofM acc l).1 ≤ 8
  | [], acc => by simp [ofM]
  | v :: t, acc => by
    rw [ofM]
    split
    · exact ofM_bd
    · simp only
      unfold putE
      split <;> (try split) <;> omega
theorem below_drewN15 (w : World) (q : Nat) : Below w.heap.size w (w.drewN q) := by
  have h := But.drewN (S := fun _ => False) (But.refl _ w) q
  exact h.below (fun _ hf => hf.elim) (Nat.le_refl _)
theorem own_byl {w : World} {base : Nat} {l : List Int} {A : Option Addr} {c : Nat} (h : w.ownsRow base 5 1 (.slice A l.length c) l.length (bC l)) : ByL w A l := by
  obtain ⟨A9, c9, e9, _, hby9, _⟩ := own8_shape h
  injection e9 with e1 _ _
  rw [e1]
  exact hby9
theorem getU_len {L : List Mv} {t : Int × Int} (h : ∀ x ∈ L, x.v.ok = true) : (getU (L.map Mv.v) t).1.length ≤ 100000 := by
  unfold getU
  cases hg : getM (L.map Mv.v) t with
  | none => simp
  | some x =>
    have hx : x ∈ L.map Mv.v := by
      unfold getM at hg
      cases ha : atM (L.map Mv.v) t with
      | none => rw [ha] at hg; cases hg
      | some y =>
        rw [ha] at hg
        simp only at hg
        split at hg
        · injection hg with hg
          subst hg
          unfold atM at ha
          split at ha
          · cases ha
          · exact List.mem_of_getElem? ha
        · cases hg
    obtain ⟨m, hm, e⟩ := List.mem_map.1 hx
    have h3 := (ok_bd (h m hm)).2.2.2.2.2.2.1
    rw [e] at h3
    simp only
    omega
theorem empty_loads15 : (∀ (ad : Addr) (w : World), (loadCellsFrom ad 0 0 #[]).run Try.prog w = .ok #[] w) ∧ (∀ (w : World) (p : Addr), (storeCells p []).run Try.prog w = .ok () w) := ⟨fun ad w => by simp [loadCellsFrom], fun w p => by simp [storeCells]⟩
set_option maxRecDepth 100000 in
set_option maxHeartbeats 60000000 in
theorem law_plays15 (A : Option Addr) (F : List Mv) (c : Nat) (LA : Option Addr) (lc : Nat) (S : List Ay) (w : World) (hF : RowA w A F) (hFm : ∀ m ∈ F, m.At (fun _ => True) w) (hFs : ∀ m ∈ F, m.v.val.length ≤ 281474976710656) (hFl : F.length ≤ maxLen) (hS : RowG Ay.cs w LA S) (hin : ∀ x ∈ S, AyIn w x) (hsz : ∀ x ∈ S, x.m.v.val.length ≤ 281474976710656) :
    Calls Try.prog 3 #[.slice A F.length c, .slice LA S.length lc] w fun e w' => e = .returned (.bool true) ∧ Below w.heap.size w w' := by
  obtain ⟨i0, hi0, hz0, hz1, hz2⟩ := info_parts ver_info
  have HF := Lib.hid hF
  have HFM := Lib.hid hFm
  have HFS := Lib.hid hFs
  have HFL := Lib.hid hFl
  have HR := Lib.hid hS
  have HIN : Hid (∀ (i : Nat) (x : Ay), S[i]? = some x → AyIn w x ∧ x.m.v.val.length ≤ 281474976710656) := Lib.hid (fun i x hx => ⟨hin x (List.mem_of_getElem? hx), hsz x (List.mem_of_getElem? hx)⟩)
  clear hF hFm hFs hS hin hsz
  go_enter Try.func3, Try.ntmps3
  go_wp2
  go_loopw [5, 6] (fun n i wr => ∃ (j m : Nat), j ≤ S.length ∧ j ≤ 100 ∧ n = .int .i64 m ∧ i = .int .i64 j ∧ m ≤ 8000 ∧ Below w.heap.size w wr ∧ Hid (∀ i x, i < j → S[i]? = some x → x.m.v.val.length ≤ 8000)) (fun _ i _ => S.length - (intOf i).toNat)
  case atStart => exact ⟨0, 0, Nat.zero_le _, by omega, rfl, rfl, by omega, Below.refl _ _, Lib.hid (fun i x h => absurd h (by omega))⟩
  case round =>
    obtain ⟨j, m, hj, hj40, rfl, rfl, hm, hB, HO⟩ := hrel
    have HB := Lib.hid hB
    clear hB
    obtain ⟨bb, hbb⟩ : ∃ bb, bb = (decide (j < S.length) && decide (j < 100)) := ⟨_, rfl⟩
    have HBB := Lib.hid hbb
    clear hbb
    go_upto_region 3 with fail
    go_cut [31] (fun v wx => v = .bool bb ∧ wx = wr)
    case first =>
      by_cases hlt : j < S.length
      · have lk : (j : Int) < (S.length : Int) := by omega
        by_cases h40 : j < 100
        · have l40 : (j : Int) < 100 := by omega
          have l40d : decide ((j : Int) < 100) = true := decide_eq_true l40
          have e : bb = true := by rw [HBB.out]; simp [hlt, h40]
          subst e
          clear hlt h40
          go_wp2_with fail
          go_meet
          exact ⟨rfl, rfl⟩
        · have l40 : ¬ (j : Int) < 100 := by omega
          have l40d : decide ((j : Int) < 100) = false := decide_eq_false l40
          have e : bb = false := by rw [HBB.out]; simp [h40]
          subst e
          clear hlt h40
          go_wp2_with fail
          go_meet
          exact ⟨rfl, rfl⟩
      · have lk : ¬ (j : Int) < (S.length : Int) := by omega
        have e : bb = false := by rw [HBB.out]; simp [hlt]
        subst e
        clear hlt
        go_wp2_with fail
        go_meet
        exact ⟨rfl, rfl⟩
    case rest =>
    obtain ⟨rfl, hwc⟩ := hcut
    subst hwc
    generalize wc = wr at *
    cases hbb : bb
    · subst hbb
      have HL4 : Hid (∀ i x, i < S.length → i < 100 → S[i]? = some x → x.m.v.val.length ≤ 8000) := Lib.hid (fun i x h1 h2 hx => HO.out i x (by
        have h := HBB.out
        have h3 : ¬ (j < S.length ∧ j < 100) := fun q => by rw [decide_eq_true q.1, decide_eq_true q.2] at h; cases h
        omega) hx)
      clear HO
      as_aux_lemma =>
        have HH := Lib.hid (lheavy A F c wr (HF.out.below HB.out) HFS.out HFL.out)
        go_wp2_with fail
        refine HH.out.mono ?_; rintro e w1 ⟨⟨b1, rfl, hb1⟩, hw1⟩
        rw [hw1]
        clear hw1
        cases b1
        rotate_left
        · clear hb1 HH
          go_wp2_with fail
          go_ret
          exact ⟨rfl, HB.out⟩
        have hl3 := hb1 rfl
        clear hb1 HH
        go_upto_region 10 with fail
        go_cut [7, 8] (fun p e wx => OfCut w (F.map Mv.v) p e wx)
        case first =>
          have HBX : Hid (Below wr.heap.size wr (wr.alloc (.cells #[] 28))) := Lib.hid (by (repeat' (first | (with_reducible exact Below.refl _ _) | (with_reducible assumption) | (with_reducible refine Below.trans ?_ (Below.mono (by with_reducible assumption) ?_)) | (with_reducible refine Below.alloc ?_ ?_ _) | (with_reducible refine Below.setCell ?_ ?_ _) | (with_reducible refine below_drewN ?_ _) | (with_reducible refine Below.drew ?_) | go_size)))
          have hmade := World.ownsRow_made (base := w.heap.size) (e := 28) (size := 6) wr #[] 0 HB.out.size (Nat.zero_le _) rfl
          have hbz := HB.out.size
          by_cases hp0 : 0 < F.length
          · as_aux_lemma =>
              obtain ⟨Bx, Ox, rfl, hBx, hcx⟩ := HF.out hp0
              have hsrc : ∀ j u, (rowV F)[j]? = some u → (wr.alloc (.cells #[] 28)).cell? ((⟨Bx, Ox, none⟩ : Addr).add j) = some u := fun j u hu => by
                rw [at_add]
                exact ((HB.out.trans (HBX.out.mono HB.out.size)).cell (p := ⟨Bx, Ox + j, none⟩) hBx).trans (hcx j u hu)
              clear hcx hBx
              go_wp2_with (at_builtin; refine wpList_append_lies _ rfl (.tmp 49) (.tmp 50) _ rfl w.heap.size 28 i0 _ 6 64 Try.underlying22 hi0 hz0 hz1 hz2 rfl (by decide) (.slice (some ⟨wr.heap.size, 0, none⟩) 0 0) 0 [] rfl hmade ⟨Bx, Ox, none⟩ F.length c (rowV F) rfl (rowV_len F) hsrc (rowV_one1 F) (by omega) (by unfold maxLen; omega) (by omega) (by simp; omega) _ rfl ?_; intro g cap w3 hown0 hg2 hat2 hlt2)
              have HR3 : Hid (RowA w3 (some ⟨g, 0, none⟩) F) := Lib.hid (rowx_rowA (base := w.heap.size) (c := cap) (by simpa using hown0))
              have HK3 : Hid (Below wr.heap.size wr w3) := Lib.hid (HBX.out.grown hg2 HBX.out.size (fun k hk => by simp [Value.ownBlock] at hk; omega))
              clear hown0 hg2 hat2 hlt2 hmade hsrc
              have HB4 := Lib.hid (HB.out.trans (HK3.out.mono HB.out.size))
              refine (ch_of (some ⟨g, 0, none⟩) F cap w3 HR3.out (by omega) (fun m hm => (HFM.out m hm).below HB4.out)).mono ?_
              rintro e w4 (⟨hne, rfl, k4⟩ | ⟨h0, hr, b, v, L, rfl, hch, hm, hll, k4⟩)
              · have HF4 : Hid (OfCut w (F.map Mv.v) (.pointer none) (.int .i64 (ofM [] (F.map Mv.v)).1) w4) := Lib.hid ⟨HB4.out.trans (k4.mono HB4.out.size), .inl ⟨hne, rfl, rfl⟩⟩
                clear hne k4
                go_wp2_with fail
                go_meet
                exact HF4.out
              · have HF4 : Hid (OfCut w (F.map Mv.v) (.pointer (some ⟨b, 0, none⟩)) (.int .i64 0) w4) := Lib.hid ⟨HB4.out.trans (k4.mono HB4.out.size), .inr ⟨h0, hr, rfl, b, v, L, rfl, hch.mono (fun i _ hi => Nat.le_trans HB4.out.size hi), hm, hll⟩⟩
                clear h0 hr hch hm hll k4
                go_wp2_with fail
                go_meet
                exact HF4.out
          · obtain rfl : F = [] := List.length_eq_zero_iff.1 (by omega)
            have hld := empty_loads15.1
            have hst := empty_loads15.2
            have hA : A = none ∨ ∃ ad, A = some ad := by cases A <;> simp
            clear hp0 hmade
            rcases hA with rfl | ⟨ad, rfl⟩
            · as_aux_lemma =>
                go_wp2_with fail
                generalize hw3 : wr.alloc (.cells #[] 28) = w3 at *
                clear hw3
                have HB4 := Lib.hid (HB.out.trans (HBX.out.mono HB.out.size))
                refine (ch_of _ [] 0 w3 (fun h => absurd h (by simp)) (by simp) (fun m hm => by cases hm)).mono ?_
                rintro e w4 (⟨hne, rfl, k4⟩ | ⟨h0, hr, b, v, L, rfl, hch, hm, hll, k4⟩)
                · have HF4 : Hid (OfCut w (([] : List Mv).map Mv.v) (.pointer none) (.int .i64 (ofM [] (([] : List Mv).map Mv.v)).1) w4) := Lib.hid ⟨HB4.out.trans (k4.mono HB4.out.size), .inl ⟨hne, rfl, rfl⟩⟩
                  clear hne k4
                  go_wp2_with fail
                  go_meet
                  exact HF4.out
                · have HF4 : Hid (OfCut w (([] : List Mv).map Mv.v) (.pointer (some ⟨b, 0, none⟩)) (.int .i64 0) w4) := Lib.hid ⟨HB4.out.trans (k4.mono HB4.out.size), .inr ⟨h0, hr, rfl, b, v, L, rfl, hch.mono (fun i _ hi => Nat.le_trans HB4.out.size hi), hm, hll⟩⟩
                  clear h0 hr hch hm hll k4
                  go_wp2_with fail
                  go_meet
                  exact HF4.out
            · as_aux_lemma =>
                go_wp2_with fail
                generalize hw3 : wr.alloc (.cells #[] 28) = w3 at *
                clear hw3
                have HB4 := Lib.hid (HB.out.trans (HBX.out.mono HB.out.size))
                refine (ch_of _ [] 0 w3 (fun h => absurd h (by simp)) (by simp) (fun m hm => by cases hm)).mono ?_
                rintro e w4 (⟨hne, rfl, k4⟩ | ⟨h0, hr, b, v, L, rfl, hch, hm, hll, k4⟩)
                · have HF4 : Hid (OfCut w (([] : List Mv).map Mv.v) (.pointer none) (.int .i64 (ofM [] (([] : List Mv).map Mv.v)).1) w4) := Lib.hid ⟨HB4.out.trans (k4.mono HB4.out.size), .inl ⟨hne, rfl, rfl⟩⟩
                  clear hne k4
                  go_wp2_with fail
                  go_meet
                  exact HF4.out
                · have HF4 : Hid (OfCut w (([] : List Mv).map Mv.v) (.pointer (some ⟨b, 0, none⟩)) (.int .i64 0) w4) := Lib.hid ⟨HB4.out.trans (k4.mono HB4.out.size), .inr ⟨h0, hr, rfl, b, v, L, rfl, hch.mono (fun i _ hi => Nat.le_trans HB4.out.size hi), hm, hll⟩⟩
                  clear h0 hr hch hm hll k4
                  go_wp2_with fail
                  go_meet
                  exact HF4.out
        case rest =>
        have HC := Lib.hid hcut.2
        have HB1 := Lib.hid hcut.1
        clear hcut HB
        have HOF := Lib.hid (ref_of A F c wc (HF.out.below HB1.out) (by omega) (fun m hm => (HFM.out m hm).below HB1.out))
        rcases HC.out with ⟨hne, rfl, rfl⟩ | ⟨h0, hr, rfl, b, v, L, rfl, hch, hm, hll⟩
        · have hbd := ofM_bd (l := F.map Mv.v) (acc := [])
          have HNE := Lib.hid hne
          obtain ⟨q, hq⟩ : ∃ q, (ofM [] (F.map Mv.v)).1 = q := ⟨_, rfl⟩
          have HQ := Lib.hid hq
          rw [hq] at hne hbd ⊢
          have hw : IntKind.i64.wrap q = q := IntWalk.i64_in _ (by omega)
          have t0 : (q != 0) = true := by simpa using hne
          have t1 : (q != q) = false := by simp
          clear hq HC
          go_wp2_with fail
          refine HOF.out.mono ?_; rintro e w2 (⟨_, rfl, k2⟩ | ⟨h0, _⟩)
          rotate_left
          · exact absurd h0 HNE.out
          rw [HQ.out]
          have HB2 := Lib.hid (HB1.out.trans (k2.mono HB1.out.size))
          clear k2 HOF
          go_wp2_with fail
          refine (known15 _).mono ?_; rintro e w3 ⟨rfl, k3⟩
          have HB3 := Lib.hid (HB2.out.trans (k3.mono HB2.out.size))
          clear k3
          go_wp2
          go_ret
          exact ⟨rfl, HB3.out⟩
        have HCH := Lib.hid hch
        have HM := Lib.hid hm
        have HRS := Lib.hid hr
        have H0 := Lib.hid h0
        clear hch hm hr h0 HC
        go_wp2_with fail
        refine HOF.out.mono ?_; rintro e w2 (⟨hne, _⟩ | ⟨_, _, bx, v', L', rfl, hch2, hm2, hll2, k2⟩)
        · exact absurd H0.out hne
        have HB2 := Lib.hid (HB1.out.trans (k2.mono HB1.out.size))
        have HCX := Lib.hid (cx_new (Nat.le_refl _) HCH.out hch2 k2 HB2.out H0.out HRS.out HM.out hm2)
        have HEQ : Hid (L.map Mv.v = L'.map Mv.v) := Lib.hid (HM.out.trans hm2.symm)
        have hl0 : L.length ≤ 300 := by simp at hll; omega
        clear hch2 hm2 hll2 k2 hll HOF HCH HM HRS H0 HB1 HB2
        go_wp2
        go_loopw [11] (fun i wr => ∃ (j : Nat) (L L' : List Mv), j ≤ S.length ∧ j ≤ 100 ∧ i = .int .i64 j ∧ Cx w b bx L L' wr.heap.size wr.heap.size wr ∧ L.map Mv.v = L'.map Mv.v ∧ L.length ≤ 300 + j) (fun i _ => S.length - (intOf i).toNat)
        case atStart => exact ⟨0, L, L', Nat.zero_le _, by omega, rfl, HCX.out, HEQ.out, by omega⟩
        case round =>
          clear HCX HEQ hl0
          obtain ⟨j2, L, L', hj2, hj240, rfl, hcx, heq, hll⟩ := hrel
          have HCX := Lib.hid hcx
          have HEQ := Lib.hid heq
          have hl2 : L'.length ≤ 300 + j2 := by have := congrArg List.length heq; simp at this; omega
          clear hcx heq
          by_cases hlt : j2 < S.length
          rotate_left
          · have lk : ¬ (j2 : Int) < (S.length : Int) := by omega
            clear hlt
            as_aux_lemma =>
              obtain ⟨A9, c9, hx9, hrow9, hat9, hlt9⟩ := HCX.out.rrow
              have HRR := Lib.hid (And.intro hrow9 hat9)
              have HX9 : Hid (∀ W, Below wr.heap.size wr W → W.cell? ⟨bx, 0, none⟩ = some (.slice A9 L'.length c9)) := Lib.hid (fun W k => (k.cell (p := ⟨bx, 0, none⟩) hlt9).trans hx9)
              clear hrow9 hat9
              go_upto_region 45 with fail
              have kd : Below wr.heap.size wr wr.drew := (Below.refl _ _).drew
              have HCV := Lib.hid (HCX.out.below kd)
              have HKV := Lib.hid kd
              refine wp_region_held_drew (S := (fun w' => w'.cell? ⟨bx, 0, none⟩ = some (.slice A9 L'.length c9))) (by kernel_rfl) (hx9) (fun hHeld => ?_)
              clear kd
              generalize wr.drew = V at *
              refine wpAnyH_take (i := 0) (v := ?_) rfl (by kernel_rfl) (by kernel_rfl) (by kernel_rfl) (fun _ _ _ h => h) (Or.inl ⟨by rfl, ?_⟩) (by assumption) ?_
              rotate_left
              · intro w' hSw; (try dsimp only at hSw); go_simp; (try with_reducible rfl)
              (try simp only [Act.put, List.setIfInBounds_toArray, List.set_cons_zero, List.set_cons_succ, List.getElem_toArray, List.getElem_cons_succ, List.getElem_cons_zero])
              refine wpAnyH_take (i := 2) (v := ?_) rfl (by kernel_rfl) (by kernel_rfl) (by kernel_rfl) (fun _ _ _ h => h) (Or.inl ⟨by rfl, ?_⟩) (by assumption) ?_
              rotate_left
              · intro w' hSw; (try dsimp only at hSw); go_simp; (try with_reducible rfl)
              (try simp only [Act.put, List.setIfInBounds_toArray, List.set_cons_zero, List.set_cons_succ, List.getElem_toArray, List.getElem_cons_succ, List.getElem_cons_zero])
              refine wpAnyH_take (i := 3) (v := ?_) rfl (by kernel_rfl) (by kernel_rfl) (by kernel_rfl) (fun _ _ _ h => h) (Or.inl ⟨by rfl, ?_⟩) (by assumption) ?_
              rotate_left
              · intro w' hSw; (try dsimp only at hSw); go_simp; (try with_reducible rfl)
              (try simp only [Act.put, List.setIfInBounds_toArray, List.set_cons_zero, List.set_cons_succ, List.getElem_toArray, List.getElem_cons_succ, List.getElem_cons_zero])
              refine wpAnyH_take (i := 4) (v := ?_) rfl (by kernel_rfl) (by kernel_rfl) (by kernel_rfl) (fun _ _ _ h => h) (Or.inl ⟨by rfl, ?_⟩) (by assumption) ?_
              rotate_left
              · intro w' hSw; (try dsimp only at hSw); go_simp; (try with_reducible rfl)
              (try simp only [Act.put, List.setIfInBounds_toArray, List.set_cons_zero, List.set_cons_succ, List.getElem_toArray, List.getElem_cons_succ, List.getElem_cons_zero])
              refine wpAnyH_take (i := 5) (v := ?_) rfl (by kernel_rfl) (by kernel_rfl) (by kernel_rfl) (fun _ _ _ h => h) (Or.inl ⟨by rfl, ?_⟩) (by assumption) ?_
              rotate_left
              · intro w' hSw; (try dsimp only at hSw); go_simp; (try with_reducible rfl)
              (try simp only [Act.put, List.setIfInBounds_toArray, List.set_cons_zero, List.set_cons_succ, List.getElem_toArray, List.getElem_cons_succ, List.getElem_cons_zero])
              refine wpAnyH_ready (rs := [1]) (by kernel_rfl) (by simp) ?_
              refine AllReadyH.cons rfl (fun K hK => ?_) AllReadyH.nil
              go_simp
              (go_at_call 28; refine (cx_all HCV.out (by omega)).mono ?_; rintro e w2 ⟨vA, LM, rfl, hcp, hmA, kA⟩; obtain ⟨AA2, cA2, rfl⟩ := cps_shape hcp; have HK2 : Hid (Below wr.heap.size wr w2) := Lib.hid (HKV.out.trans (kA.mono HKV.out.size)); have HCP := Lib.hid hcp; have HMA := Lib.hid hmA; have hlm : LM.length ≤ 1000000 := (by have := congrArg List.length hmA; simp at this; omega); clear hcp hmA kA)
              (try dsimp only)
              refine hK.out _ _ ?_ (fun hHeld => ?_)
              · exact HX9.out _ HK2.out
              clear hK K
              (try simp only [Act.put, List.setIfInBounds_toArray, List.set_cons_zero, List.set_cons_succ, List.getElem_toArray, List.getElem_cons_succ, List.getElem_cons_zero])
              refine wpAnyH_ready (rs := [6]) (by kernel_rfl) (by simp) ?_
              refine AllReadyH.cons rfl (fun K hK => ?_) AllReadyH.nil
              go_simp
              (go_at_call 29; refine (lversions AA2 A9 LM L' cA2 c9 w2 (cpx_rowA HCP.out) (HRR.out.1.below HK2.out) (cpx_ats HCP.out (byx_of_map HMA.out HCX.out.by_)) (fun m hm => (HRR.out.2 m hm).below HK2.out) (by omega) (by omega)).mono ?_; rintro e w3 ⟨⟨bv, rfl, hbv⟩, k3⟩; obtain rfl : bv = true := hbv.2 (HMA.out.trans HEQ.out); have HK3 := Lib.hid (HK2.out.trans (k3.mono HK2.out.size)); clear hbv k3)
              (try dsimp only)
              refine hK.out _ _ ?_ (fun hHeld => ?_)
              · exact HX9.out _ HK3.out
              clear hK K
              (try simp only [Act.put, List.setIfInBounds_toArray, List.set_cons_zero, List.set_cons_succ, List.getElem_toArray, List.getElem_cons_succ, List.getElem_cons_zero])
              refine wpAnyH_take (i := 7) (v := ?_) rfl (by kernel_rfl) (by kernel_rfl) (by kernel_rfl) (fun _ _ _ h => h) (Or.inl ⟨by rfl, ?_⟩) (by assumption) ?_
              rotate_left
              · intro w' hSw; (try dsimp only at hSw); go_simp; (try with_reducible rfl)
              (try simp only [Act.put, List.setIfInBounds_toArray, List.set_cons_zero, List.set_cons_succ, List.getElem_toArray, List.getElem_cons_succ, List.getElem_cons_zero])
              refine wpAnyH_ready (rs := [8]) (by kernel_rfl) (by simp) ?_
              refine AllReadyH.cons rfl (fun K hK => ?_) AllReadyH.nil
              go_simp
              (go_at_call 13; refine (known15 w3).mono ?_; rintro e w4 ⟨rfl, k4⟩; have HK4 := Lib.hid (HK3.out.trans (k4.mono HK3.out.size)); clear k4)
              (try dsimp only)
              refine hK.out _ _ ?_ (fun hHeld => ?_)
              · exact HX9.out _ HK4.out
              clear hK K
              (try simp only [Act.put, List.setIfInBounds_toArray, List.set_cons_zero, List.set_cons_succ, List.getElem_toArray, List.getElem_cons_succ, List.getElem_cons_zero])
              refine wpAnyH_take (i := 9) (v := ?_) rfl (by kernel_rfl) (by kernel_rfl) (by kernel_rfl) (fun _ _ _ h => h) (Or.inl ⟨by rfl, ?_⟩) (by assumption) ?_
              rotate_left
              · intro w' hSw; (try dsimp only at hSw); go_simp; (try with_reducible rfl)
              (try simp only [Act.put, List.setIfInBounds_toArray, List.set_cons_zero, List.set_cons_succ, List.getElem_toArray, List.getElem_cons_succ, List.getElem_cons_zero])
              refine wpAnyH_take (i := 10) (v := ?_) rfl (by kernel_rfl) (by kernel_rfl) (by kernel_rfl) (fun _ _ _ h => h) (Or.inl ⟨by rfl, ?_⟩) (by assumption) ?_
              rotate_left
              · intro w' hSw; (try dsimp only at hSw); go_simp; (try with_reducible rfl)
              (try simp only [Act.put, List.setIfInBounds_toArray, List.set_cons_zero, List.set_cons_succ, List.getElem_toArray, List.getElem_cons_succ, List.getElem_cons_zero])
              refine wpAnyH_done (by kernel_rfl) ?_ _
              go_wp2
              go_ret
              exact ⟨rfl, HCX.out.bel.trans (HK4.out.mono HCX.out.bel.size)⟩
          have lk : (j2 : Int) < (S.length : Int) := by omega
          by_cases h40 : j2 < 100
          rotate_left
          · have l40 : ¬ (j2 : Int) < 100 := by omega
            have l40d : decide ((j2 : Int) < 100) = false := decide_eq_false l40
            clear hlt h40
            as_aux_lemma =>
              obtain ⟨A9, c9, hx9, hrow9, hat9, hlt9⟩ := HCX.out.rrow
              have HRR := Lib.hid (And.intro hrow9 hat9)
              have HX9 : Hid (∀ W, Below wr.heap.size wr W → W.cell? ⟨bx, 0, none⟩ = some (.slice A9 L'.length c9)) := Lib.hid (fun W k => (k.cell (p := ⟨bx, 0, none⟩) hlt9).trans hx9)
              clear hrow9 hat9
              go_upto_region 45 with fail
              have kd : Below wr.heap.size wr wr.drew := (Below.refl _ _).drew
              have HCV := Lib.hid (HCX.out.below kd)
              have HKV := Lib.hid kd
              refine wp_region_held_drew (S := (fun w' => w'.cell? ⟨bx, 0, none⟩ = some (.slice A9 L'.length c9))) (by kernel_rfl) (hx9) (fun hHeld => ?_)
              clear kd
              generalize wr.drew = V at *
              refine wpAnyH_take (i := 0) (v := ?_) rfl (by kernel_rfl) (by kernel_rfl) (by kernel_rfl) (fun _ _ _ h => h) (Or.inl ⟨by rfl, ?_⟩) (by assumption) ?_
              rotate_left
              · intro w' hSw; (try dsimp only at hSw); go_simp; (try with_reducible rfl)
              (try simp only [Act.put, List.setIfInBounds_toArray, List.set_cons_zero, List.set_cons_succ, List.getElem_toArray, List.getElem_cons_succ, List.getElem_cons_zero])
              refine wpAnyH_take (i := 2) (v := ?_) rfl (by kernel_rfl) (by kernel_rfl) (by kernel_rfl) (fun _ _ _ h => h) (Or.inl ⟨by rfl, ?_⟩) (by assumption) ?_
              rotate_left
              · intro w' hSw; (try dsimp only at hSw); go_simp; (try with_reducible rfl)
              (try simp only [Act.put, List.setIfInBounds_toArray, List.set_cons_zero, List.set_cons_succ, List.getElem_toArray, List.getElem_cons_succ, List.getElem_cons_zero])
              refine wpAnyH_take (i := 3) (v := ?_) rfl (by kernel_rfl) (by kernel_rfl) (by kernel_rfl) (fun _ _ _ h => h) (Or.inl ⟨by rfl, ?_⟩) (by assumption) ?_
              rotate_left
              · intro w' hSw; (try dsimp only at hSw); go_simp; (try with_reducible rfl)
              (try simp only [Act.put, List.setIfInBounds_toArray, List.set_cons_zero, List.set_cons_succ, List.getElem_toArray, List.getElem_cons_succ, List.getElem_cons_zero])
              refine wpAnyH_take (i := 4) (v := ?_) rfl (by kernel_rfl) (by kernel_rfl) (by kernel_rfl) (fun _ _ _ h => h) (Or.inl ⟨by rfl, ?_⟩) (by assumption) ?_
              rotate_left
              · intro w' hSw; (try dsimp only at hSw); go_simp; (try with_reducible rfl)
              (try simp only [Act.put, List.setIfInBounds_toArray, List.set_cons_zero, List.set_cons_succ, List.getElem_toArray, List.getElem_cons_succ, List.getElem_cons_zero])
              refine wpAnyH_take (i := 5) (v := ?_) rfl (by kernel_rfl) (by kernel_rfl) (by kernel_rfl) (fun _ _ _ h => h) (Or.inl ⟨by rfl, ?_⟩) (by assumption) ?_
              rotate_left
              · intro w' hSw; (try dsimp only at hSw); go_simp; (try with_reducible rfl)
              (try simp only [Act.put, List.setIfInBounds_toArray, List.set_cons_zero, List.set_cons_succ, List.getElem_toArray, List.getElem_cons_succ, List.getElem_cons_zero])
              refine wpAnyH_ready (rs := [1]) (by kernel_rfl) (by simp) ?_
              refine AllReadyH.cons rfl (fun K hK => ?_) AllReadyH.nil
              go_simp
              (go_at_call 28; refine (cx_all HCV.out (by omega)).mono ?_; rintro e w2 ⟨vA, LM, rfl, hcp, hmA, kA⟩; obtain ⟨AA2, cA2, rfl⟩ := cps_shape hcp; have HK2 : Hid (Below wr.heap.size wr w2) := Lib.hid (HKV.out.trans (kA.mono HKV.out.size)); have HCP := Lib.hid hcp; have HMA := Lib.hid hmA; have hlm : LM.length ≤ 1000000 := (by have := congrArg List.length hmA; simp at this; omega); clear hcp hmA kA)
              (try dsimp only)
              refine hK.out _ _ ?_ (fun hHeld => ?_)
              · exact HX9.out _ HK2.out
              clear hK K
              (try simp only [Act.put, List.setIfInBounds_toArray, List.set_cons_zero, List.set_cons_succ, List.getElem_toArray, List.getElem_cons_succ, List.getElem_cons_zero])
              refine wpAnyH_ready (rs := [6]) (by kernel_rfl) (by simp) ?_
              refine AllReadyH.cons rfl (fun K hK => ?_) AllReadyH.nil
              go_simp
              (go_at_call 29; refine (lversions AA2 A9 LM L' cA2 c9 w2 (cpx_rowA HCP.out) (HRR.out.1.below HK2.out) (cpx_ats HCP.out (byx_of_map HMA.out HCX.out.by_)) (fun m hm => (HRR.out.2 m hm).below HK2.out) (by omega) (by omega)).mono ?_; rintro e w3 ⟨⟨bv, rfl, hbv⟩, k3⟩; obtain rfl : bv = true := hbv.2 (HMA.out.trans HEQ.out); have HK3 := Lib.hid (HK2.out.trans (k3.mono HK2.out.size)); clear hbv k3)
              (try dsimp only)
              refine hK.out _ _ ?_ (fun hHeld => ?_)
              · exact HX9.out _ HK3.out
              clear hK K
              (try simp only [Act.put, List.setIfInBounds_toArray, List.set_cons_zero, List.set_cons_succ, List.getElem_toArray, List.getElem_cons_succ, List.getElem_cons_zero])
              refine wpAnyH_take (i := 7) (v := ?_) rfl (by kernel_rfl) (by kernel_rfl) (by kernel_rfl) (fun _ _ _ h => h) (Or.inl ⟨by rfl, ?_⟩) (by assumption) ?_
              rotate_left
              · intro w' hSw; (try dsimp only at hSw); go_simp; (try with_reducible rfl)
              (try simp only [Act.put, List.setIfInBounds_toArray, List.set_cons_zero, List.set_cons_succ, List.getElem_toArray, List.getElem_cons_succ, List.getElem_cons_zero])
              refine wpAnyH_ready (rs := [8]) (by kernel_rfl) (by simp) ?_
              refine AllReadyH.cons rfl (fun K hK => ?_) AllReadyH.nil
              go_simp
              (go_at_call 13; refine (known15 w3).mono ?_; rintro e w4 ⟨rfl, k4⟩; have HK4 := Lib.hid (HK3.out.trans (k4.mono HK3.out.size)); clear k4)
              (try dsimp only)
              refine hK.out _ _ ?_ (fun hHeld => ?_)
              · exact HX9.out _ HK4.out
              clear hK K
              (try simp only [Act.put, List.setIfInBounds_toArray, List.set_cons_zero, List.set_cons_succ, List.getElem_toArray, List.getElem_cons_succ, List.getElem_cons_zero])
              refine wpAnyH_take (i := 9) (v := ?_) rfl (by kernel_rfl) (by kernel_rfl) (by kernel_rfl) (fun _ _ _ h => h) (Or.inl ⟨by rfl, ?_⟩) (by assumption) ?_
              rotate_left
              · intro w' hSw; (try dsimp only at hSw); go_simp; (try with_reducible rfl)
              (try simp only [Act.put, List.setIfInBounds_toArray, List.set_cons_zero, List.set_cons_succ, List.getElem_toArray, List.getElem_cons_succ, List.getElem_cons_zero])
              refine wpAnyH_take (i := 10) (v := ?_) rfl (by kernel_rfl) (by kernel_rfl) (by kernel_rfl) (fun _ _ _ h => h) (Or.inl ⟨by rfl, ?_⟩) (by assumption) ?_
              rotate_left
              · intro w' hSw; (try dsimp only at hSw); go_simp; (try with_reducible rfl)
              (try simp only [Act.put, List.setIfInBounds_toArray, List.set_cons_zero, List.set_cons_succ, List.getElem_toArray, List.getElem_cons_succ, List.getElem_cons_zero])
              refine wpAnyH_done (by kernel_rfl) ?_ _
              go_wp2
              go_ret
              exact ⟨rfl, HCX.out.bel.trans (HK4.out.mono HCX.out.bel.size)⟩
          have l40 : (j2 : Int) < 100 := by omega
          have l40d : decide ((j2 : Int) < 100) = true := decide_eq_true l40
          have hi1 : ((j2 : Int).toNat) = j2 := by simp
          obtain ⟨B, O, rfl, hBl, hcell⟩ := HR.out (by omega)
          have hx : S[j2]? = some S[j2] := List.getElem?_eq_getElem hlt
          have HLX := Lib.hid (HL4.out j2 _ hlt h40 hx)
          generalize S[j2] = x at *
          have HXI := Lib.hid (HIN.out j2 _ hx).1
          have HBQ := Lib.hid HCX.out.bel
          have r0 : wr.cell? ⟨B, O + j2 * 9, none⟩ = some (.int .i64 x.k) := (HBQ.out.cell (p := ⟨B, O + (j2 * 9 + 0), none⟩) hBl).trans (hcell (j2 * 9 + 0) _ (fm_at Ay.cs 9 Ay.len hx 0 (by omega)))
          have r1 : wr.cell? ⟨B, O + j2 * 9 + 1, none⟩ = some (.int .i64 x.m.v.ml) := by rw [Nat.add_assoc]; exact (HBQ.out.cell (p := ⟨B, O + (j2 * 9 + 1), none⟩) hBl).trans (hcell _ _ (fm_at Ay.cs 9 Ay.len hx 1 (by omega)))
          have r2 : wr.cell? ⟨B, O + j2 * 9 + 2, none⟩ = some (.int .i64 x.m.v.ct) := by rw [Nat.add_assoc]; exact (HBQ.out.cell (p := ⟨B, O + (j2 * 9 + 2), none⟩) hBl).trans (hcell _ _ (fm_at Ay.cs 9 Ay.len hx 2 (by omega)))
          have r3 : wr.cell? ⟨B, O + j2 * 9 + 3, none⟩ = some (.int .i64 x.m.v.vo) := by rw [Nat.add_assoc]; exact (HBQ.out.cell (p := ⟨B, O + (j2 * 9 + 3), none⟩) hBl).trans (hcell _ _ (fm_at Ay.cs 9 Ay.len hx 3 (by omega)))
          have r4 : wr.cell? ⟨B, O + j2 * 9 + 4, none⟩ = some (.slice x.m.A x.m.v.val.length x.m.c) := by rw [Nat.add_assoc]; exact (HBQ.out.cell (p := ⟨B, O + (j2 * 9 + 4), none⟩) hBl).trans (hcell _ _ (fm_at Ay.cs 9 Ay.len hx 4 (by omega)))
          have r5 : wr.cell? ⟨B, O + j2 * 9 + 5, none⟩ = some (.bool x.m.v.gone) := by rw [Nat.add_assoc]; exact (HBQ.out.cell (p := ⟨B, O + (j2 * 9 + 5), none⟩) hBl).trans (hcell _ _ (fm_at Ay.cs 9 Ay.len hx 5 (by omega)))
          have r6 : wr.cell? ⟨B, O + j2 * 9 + 6, none⟩ = some (.int .i64 x.m.v.tt) := by rw [Nat.add_assoc]; exact (HBQ.out.cell (p := ⟨B, O + (j2 * 9 + 6), none⟩) hBl).trans (hcell _ _ (fm_at Ay.cs 9 Ay.len hx 6 (by omega)))
          have r7 : wr.cell? ⟨B, O + j2 * 9 + 7, none⟩ = some (.int .i64 x.t1) := by rw [Nat.add_assoc]; exact (HBQ.out.cell (p := ⟨B, O + (j2 * 9 + 7), none⟩) hBl).trans (hcell _ _ (fm_at Ay.cs 9 Ay.len hx 7 (by omega)))
          have r8 : wr.cell? ⟨B, O + j2 * 9 + 8, none⟩ = some (.int .i64 x.t2) := by rw [Nat.add_assoc]; exact (HBQ.out.cell (p := ⟨B, O + (j2 * 9 + 8), none⟩) hBl).trans (hcell _ _ (fm_at Ay.cs 9 Ay.len hx 8 (by omega)))
          obtain ⟨k, ⟨⟨ml, ct, vo, val, gn, tt⟩, xA, xc⟩, t1, t2⟩ := x
          clear hx hcell hBl
          simp only at r0 r1 r2 r3 r4 r5 r6 r7 r8
          go_upto_block 4 with fail
          obtain ⟨W1, hW1⟩ : ∃ W1, wr.alloc (.cells #[.int .i64 k, .int .i64 ml, .int .i64 ct, .int .i64 vo, .slice xA val.length xc, .bool gn, .int .i64 tt, .int .i64 t1, .int .i64 t2] 30) = W1 := ⟨_, rfl⟩
          have kal : Below wr.heap.size wr W1 := by rw [← hW1]; (repeat' (first | (with_reducible exact Below.refl _ _) | (with_reducible assumption) | (with_reducible refine Below.trans ?_ (Below.mono (by with_reducible assumption) ?_)) | (with_reducible refine Below.alloc ?_ ?_ _) | (with_reducible refine Below.setCell ?_ ?_ _) | (with_reducible refine below_drewN ?_ _) | (with_reducible refine Below.drew ?_) | go_size))
          have HS1 : Hid (XB W1 wr.heap.size [.int .i64 k, .int .i64 ml, .int .i64 ct, .int .i64 vo, .slice xA val.length xc, .bool gn, .int .i64 tt, .int .i64 t1, .int .i64 t2]) := Lib.hid (by rw [← hW1]; exact XB.new wr #[.int .i64 k, .int .i64 ml, .int .i64 ct, .int .i64 vo, .slice xA val.length xc, .bool gn, .int .i64 tt, .int .i64 t1, .int .i64 t2] _)
          have HC1 := Lib.hid (HCX.out.fence (Nat.le_refl _) kal)
          have HCF : Hid (∀ W, Below W1.heap.size W1 W → Cx w b bx L L' wr.heap.size W.heap.size W) := Lib.hid (fun W q => HCX.out.fence (Nat.le_refl _) (kal.trans (q.mono kal.size)))
          have HM1 : Hid ((Mv.mk ⟨ml, ct, vo, val, gn, tt⟩ xA xc).At (fun i => i < w.heap.size) W1) := Lib.hid (((HXI.out.m.at_.mono (fun i hi _ => hi)).below HBQ.out).below kal)
          have HT1 : Hid ((Lit.int .i64 t1).wf = true) := Lib.hid HXI.out.t
          have hvl : val.length ≤ 8000 := HLX.out
          have hwz := HBQ.out.size
          rw [hW1]
          clear hW1 r0 r1 r2 r3 r4 r5 r6 r7 r8 HXI HBQ HLX HCX
          obtain ⟨sb, hsb⟩ : ∃ sb, wr.heap.size = sb := ⟨_, rfl⟩
          have hk1 : sb < W1.heap.size := by rw [← hsb]; exact HS1.out.lt
          rw [hsb] at HS1 HC1 HCF hwz
          rw [hsb]
          clear kal hsb
          go_cut [89] (fun _ wx => ∃ (L9 L9' : List Mv), Cx w b bx L9 L9' wx.heap.size wx.heap.size wx ∧ L9.map Mv.v = L9'.map Mv.v ∧ L9.length ≤ 301 + j2)
          case first =>
            by_cases h1 : k = 1
            · have hk := h1
              clear h1
              as_aux_lemma =>
                subst hk
                have HPP : Hid (putE (L'.map Mv.v) ⟨ml, ct, vo, val, gn, tt⟩ = putE (L.map Mv.v) ⟨ml, ct, vo, val, gn, tt⟩ ∧ putL (L'.map Mv.v) ⟨ml, ct, vo, val, gn, tt⟩ = putL (L.map Mv.v) ⟨ml, ct, vo, val, gn, tt⟩) := Lib.hid (by rw [HEQ.out]; exact ⟨rfl, rfl⟩)
                obtain ⟨pe, hpe⟩ : ∃ pe, putE (L.map Mv.v) ⟨ml, ct, vo, val, gn, tt⟩ = pe := ⟨_, rfl⟩
                obtain ⟨R, hR⟩ : ∃ R, (if pe = 0 then putL (L.map Mv.v) ⟨ml, ct, vo, val, gn, tt⟩ else L.map Mv.v) = R := ⟨_, rfl⟩
                have HRL : Hid (R.length ≤ 301 + j2) := Lib.hid (by
                  rw [← hR]
                  split
                  · rw [putL_len]; simp; omega
                  · simp; omega)
                have HPE := Lib.hid (And.intro hpe hR)
                have hpb : -9223372036854775808 ≤ pe ∧ pe ≤ 9223372036854775807 := by
                  rw [← hpe]; unfold putE
                  split <;> (try split) <;> omega
                have hpw : IntKind.i64.wrap pe = pe := IntWalk.i64_in _ (by omega)
                have tpe : (pe != pe) = false := by simp
                clear hpe hR hpb
                obtain ⟨W2, hW2⟩ : ∃ W2, W1.alloc (.cells #[.int .i64 ml, .int .i64 ct, .int .i64 vo, .slice xA val.length xc, .bool gn, .int .i64 tt] 28) = W2 := ⟨_, rfl⟩
                have kw2 : Below W1.heap.size W1 W2 := by rw [← hW2]; (repeat' (first | (with_reducible exact Below.refl _ _) | (with_reducible assumption) | (with_reducible refine Below.trans ?_ (Below.mono (by with_reducible assumption) ?_)) | (with_reducible refine Below.alloc ?_ ?_ _) | (with_reducible refine Below.setCell ?_ ?_ _) | (with_reducible refine below_drewN ?_ _) | (with_reducible refine Below.drew ?_) | go_size))
                have hx2 : XB W2 W1.heap.size [.int .i64 ml, .int .i64 ct, .int .i64 vo, .slice xA val.length xc, .bool gn, .int .i64 tt] := by rw [← hW2]; exact XB.new W1 #[.int .i64 ml, .int .i64 ct, .int .i64 vo, .slice xA val.length xc, .bool gn, .int .i64 tt] _
                have HK2 := Lib.hid kw2
                have HV2 := Lib.hid hx2
                have HS2 := Lib.hid (HS1.out.below kw2)
                have HM2 := Lib.hid ((HM1.out.mono (Q' := fun i => i < w.heap.size ∧ i < W1.heap.size) (fun i hi hq => ⟨hq, hi⟩)).below kw2)
                clear kw2 hx2
                have c0 := HS1.out.c 0 _ rfl
                have c1 := HS1.out.c 1 _ rfl
                have c2 := HS1.out.c 2 _ rfl
                have c3 := HS1.out.c 3 _ rfl
                have c4 := HS1.out.c 4 _ rfl
                have c5 := HS1.out.c 5 _ rfl
                have c6 := HS1.out.c 6 _ rfl
                have c7 := HS1.out.c 7 _ rfl
                have c8 := HS1.out.c 8 _ rfl
                have lt := HS1.out.lt
                go_upto_region 23 with fail
                (try rw [hW2])
                obtain ⟨vb, hvb⟩ : ∃ vb, W1.heap.size = vb := ⟨_, rfl⟩
                rw [hvb] at HV2 hk1 HM2
                rw [hvb]
                clear hW2 hvb c0 c1 c2 c3 c4 c5 c6 c7 c8 lt
                have c4 := HS2.out.c 4 _ rfl
                have lt2 := HV2.out.lt
                have kd : Below W2.heap.size W2 W2.drew := (Below.refl _ _).drew
                have HKV := Lib.hid (HK2.out.trans (kd.mono HK2.out.size))
                have HSV := Lib.hid (HS2.out.below kd)
                have HVV := Lib.hid (HV2.out.below kd)
                have HMV := Lib.hid (HM2.out.below kd)
                refine wp_region_held_drew (S := (fun w' => w'.cell? ⟨sb, 4, none⟩ = some (.slice xA val.length xc))) (by kernel_rfl) (c4) (fun hHeld => ?_)
                clear kd
                generalize W2.drew = V at *
                refine wpAnyH_take (i := 0) (v := ?_) rfl (by kernel_rfl) (by kernel_rfl) (by kernel_rfl) (fun _ _ _ h => h) (Or.inl ⟨by rfl, ?_⟩) (by assumption) ?_
                rotate_left
                · intro w' hSw; (try dsimp only at hSw); go_simp; (try with_reducible rfl)
                (try simp only [Act.put, List.setIfInBounds_toArray, List.set_cons_zero, List.set_cons_succ, List.getElem_toArray, List.getElem_cons_succ, List.getElem_cons_zero])
                refine wpAnyH_take (i := 1) (v := ?_) rfl (by kernel_rfl) (by kernel_rfl) (by kernel_rfl) (fun _ _ _ h => h) (Or.inl ⟨by rfl, ?_⟩) (by assumption) ?_
                rotate_left
                · intro w' hSw; (try dsimp only at hSw); go_simp; (try with_reducible rfl)
                (try simp only [Act.put, List.setIfInBounds_toArray, List.set_cons_zero, List.set_cons_succ, List.getElem_toArray, List.getElem_cons_succ, List.getElem_cons_zero])
                refine wpAnyH_take (i := 2) (v := ?_) rfl (by kernel_rfl) (by kernel_rfl) (by kernel_rfl) (fun _ _ _ h => h) (Or.inl ⟨by rfl, ?_⟩) (by assumption) ?_
                rotate_left
                · intro w' hSw; (try dsimp only at hSw); go_simp; (try with_reducible rfl)
                (try simp only [Act.put, List.setIfInBounds_toArray, List.set_cons_zero, List.set_cons_succ, List.getElem_toArray, List.getElem_cons_succ, List.getElem_cons_zero])
                refine wpAnyH_take (i := 4) (v := ?_) rfl (by kernel_rfl) (by kernel_rfl) (by kernel_rfl) (fun _ _ _ h => h) (Or.inl ⟨by rfl, ?_⟩) (by assumption) ?_
                rotate_left
                · intro w' hSw; (try dsimp only at hSw); go_simp; (try with_reducible rfl)
                (try simp only [Act.put, List.setIfInBounds_toArray, List.set_cons_zero, List.set_cons_succ, List.getElem_toArray, List.getElem_cons_succ, List.getElem_cons_zero])
                refine wpAnyH_take (i := 5) (v := ?_) rfl (by kernel_rfl) (by kernel_rfl) (by kernel_rfl) (fun _ _ _ h => h) (Or.inl ⟨by rfl, ?_⟩) (by assumption) ?_
                rotate_left
                · intro w' hSw; (try dsimp only at hSw); go_simp; (try with_reducible rfl)
                (try simp only [Act.put, List.setIfInBounds_toArray, List.set_cons_zero, List.set_cons_succ, List.getElem_toArray, List.getElem_cons_succ, List.getElem_cons_zero])
                refine wpAnyH_take (i := 6) (v := ?_) rfl (by kernel_rfl) (by kernel_rfl) (by kernel_rfl) (fun _ _ _ h => h) (Or.inl ⟨by rfl, ?_⟩) (by assumption) ?_
                rotate_left
                · intro w' hSw; (try dsimp only at hSw); go_simp; (try with_reducible rfl)
                (try simp only [Act.put, List.setIfInBounds_toArray, List.set_cons_zero, List.set_cons_succ, List.getElem_toArray, List.getElem_cons_succ, List.getElem_cons_zero])
                refine wpAnyH_take (i := 7) (v := ?_) rfl (by kernel_rfl) (by kernel_rfl) (by kernel_rfl) (fun _ _ _ h => h) (Or.inl ⟨by rfl, ?_⟩) (by assumption) ?_
                rotate_left
                · intro w' hSw; (try dsimp only at hSw); go_simp; (try with_reducible rfl)
                (try simp only [Act.put, List.setIfInBounds_toArray, List.set_cons_zero, List.set_cons_succ, List.getElem_toArray, List.getElem_cons_succ, List.getElem_cons_zero])
                refine wpAnyH_ready (rs := [3]) (by kernel_rfl) (by simp) ?_
                refine AllReadyH.cons rfl (fun K hK => ?_) AllReadyH.nil
                go_simp
                (go_at_call 14; refine (roomy14 xA val xc V HMV.out.b HMV.out.n (by omega)).mono ?_; rintro e w3 ⟨⟨g, cap, rfl, hcap1, hcap2, ho3⟩, k3⟩; have HK3 := Lib.hid (HKV.out.trans (k3.mono HKV.out.size)); have HS3 := Lib.hid (HSV.out.below k3); have HV3 := Lib.hid (HVV.out.below k3); have HM3 := Lib.hid (HMV.out.below k3); have hgl := World.ownsRow.lt ho3 g rfl; have hvg : vb < g := (by have := HVV.out.lt; omega); have HO3 := Lib.hid (own_first ho3 rfl); have hgt := hgl.2; clear ho3 k3 hgl)
                (try dsimp only)
                refine hK.out _ _ ?_ (fun hHeld => ?_)
                · exact HS3.out.c 4 _ rfl
                clear hK K
                (try simp only [Act.put, List.setIfInBounds_toArray, List.set_cons_zero, List.set_cons_succ, List.getElem_toArray, List.getElem_cons_succ, List.getElem_cons_zero])
                have hlc : (val.length : Int) ≤ (cap : Int) := by omega
                have hlc' : val.length ≤ cap := by omega
                have cv3 := HV3.out.c 3 _ rfl
                have fv3 := HV3.out.fz 3
                have ltv := HV3.out.lt
                refine wpAnyH_take (i := 8) (v := ?_) rfl (by kernel_rfl) (by kernel_rfl) (by kernel_rfl) (fun _ _ _ h => h) (Or.inl ⟨by rfl, ?_⟩) (by assumption) ?_
                rotate_left
                · intro w' hSw; (try dsimp only at hSw); go_simp; (try with_reducible rfl)
                (try simp only [Act.put, List.setIfInBounds_toArray, List.set_cons_zero, List.set_cons_succ, List.getElem_toArray, List.getElem_cons_succ, List.getElem_cons_zero])
                refine wpAnyH_take (i := 9) (v := ?_) rfl (by kernel_rfl) (by kernel_rfl) (by kernel_rfl) (fun _ _ _ h => h) (Or.inl ⟨by rfl, ?_⟩) (by assumption) ?_
                rotate_left
                · intro w' hSw; (try dsimp only at hSw); go_simp; (try with_reducible rfl)
                (try simp only [Act.put, List.setIfInBounds_toArray, List.set_cons_zero, List.set_cons_succ, List.getElem_toArray, List.getElem_cons_succ, List.getElem_cons_zero])
                refine wpAnyH_ready (rs := [10]) (by kernel_rfl) (by simp) ?_
                refine AllReadyH.cons rfl (fun K hK => ?_) (AllReadyH.nil)
                go_simp
                obtain ⟨W4, hW4⟩ : ∃ W4, w3.setCell ⟨vb, 3, none⟩ (.slice (some ⟨g, 0, none⟩) val.length cap) = W4 := ⟨_, rfl⟩
                have hb34 : But (fun i => i = vb) w3 W4 := by rw [← hW4]; exact (But.refl (fun i => i = vb) w3).setCell (p := ⟨vb, 3, none⟩) (fun _ => rfl) _
                have HV4 : Hid (XB W4 vb [.int .i64 ml, .int .i64 ct, .int .i64 vo, .slice (some ⟨g, 0, none⟩) val.length cap, .bool gn, .int .i64 tt]) := Lib.hid (by rw [← hW4]; exact HV3.out.set 3 (by simp) _)
                have HS4 := Lib.hid (HS3.out.but hb34 (by intro q; have q2 : sb = vb := q; omega))
                have HO4 := Lib.hid (hb34.row HO3.out (fun i hi q => by have e : g = i := Option.some.inj hi; have q2 : i = vb := q; omega))
                have HM4 := Lib.hid ((HM3.out.but hb34 (fun i q q2 => by have q3 : i = vb := q; have q4 : i < w.heap.size ∧ i < vb := q2; omega)).mono (Q' := fun i => i < w.heap.size) (fun i _ hq => hq.1))
                have HC4 := Lib.hid ((HCF.out w3 HK3.out).but hb34 (fun i hi => by have q2 : i = vb := hi; exact ⟨by omega, by omega⟩) hwz)
                rw [hW4]
                clear hW4 hb34 cv3 fv3
                (try dsimp only)
                refine hK.out _ _ ?_ (fun hHeld => ?_)
                · exact HS4.out.c 4 _ rfl
                clear hK K
                (try simp only [Act.put, List.setIfInBounds_toArray, List.set_cons_zero, List.set_cons_succ, List.getElem_toArray, List.getElem_cons_succ, List.getElem_cons_zero])
                refine wpAnyH_done (by kernel_rfl) ?_ _
                clear hHeld c4 lt2
                have hyv := HM4.out.y
                have HMC4 := Lib.hid (own_at (x := ⟨ml, ct, vo, val, gn, tt⟩) HO4.out hyv)
                have HPA : Hid (∀ W, Cx w b bx L L' sb w3.heap.size W → (Mv.mk ⟨ml, ct, vo, val, gn, tt⟩ (some ⟨g, 0, none⟩) cap).At (fun _ => True) W → Calls Try.prog 15 #[.pointer (some ⟨b, 0, none⟩), verV ml ct vo (some ⟨g, 0, none⟩) val.length cap gn tt] W fun e w' => e = .returned (.int .i64 pe) ∧ ∃ L1, Cx w b bx L1 L' sb w3.heap.size w' ∧ L1.map Mv.v = R ∧ But (fun i => w.heap.size ≤ i ∧ (i < sb ∨ w3.heap.size ≤ i)) W w') := Lib.hid (fun W q1 q2 => by
                  have h := cx_put _ q1 (by omega) q2
                  unfold PutX at h
                  rw [HPE.out.1, HPE.out.2] at h
                  exact h)
                have HPB : Hid (∀ W L5, Cx w b bx L5 L' sb w3.heap.size W → (Mv.mk ⟨ml, ct, vo, val, gn, tt⟩ xA xc).At (fun _ => True) W → Calls Try.prog 16 #[.pointer (some ⟨bx, 0, none⟩), verV ml ct vo xA val.length xc gn tt] W fun e w' => e = .returned (.int .i64 pe) ∧ ∃ L1, Cx w bx b L1 L5 sb w3.heap.size w' ∧ L1.map Mv.v = R ∧ But (fun i => w.heap.size ≤ i ∧ (i < sb ∨ w3.heap.size ≤ i)) W w') := Lib.hid (fun W L5 q1 q2 => by
                  have h := cx_rput _ q1 (by omega) q2
                  unfold PutX at h
                  rw [HPP.out.1, HPP.out.2, ← HEQ.out, HPE.out.1, HPE.out.2] at h
                  exact h)
                obtain ⟨okk, hok⟩ : ∃ okk, okV ml ct vo val.length gn tt = okk := ⟨_, rfl⟩
                have tok : (okV ml ct vo val.length gn tt != okV ml ct vo val.length gn tt) = false := by simp
                clear hok
                have lt4 := HV4.out.lt
                have lt5 := HS4.out.lt
                go_upto_region 24 with fail
                have kd : Below W4.heap.size W4 W4.drew := (Below.refl _ _).drew
                have HCV := Lib.hid (HC4.out.below kd)
                have HVV4 := Lib.hid (HV4.out.below kd)
                have HSV4 := Lib.hid (HS4.out.below kd)
                have HMC := Lib.hid (HMC4.out.below kd)
                have HMV4 := Lib.hid (HM4.out.below kd)
                have HOV := Lib.hid (row_below HO4.out kd)
                refine wp_region_held_drew (S := (fun w' => w'.cell? ⟨vb, 0, none⟩ = some (.int .i64 ml) ∧ w'.cell? ⟨vb, 1, none⟩ = some (.int .i64 ct) ∧ w'.cell? ⟨vb, 2, none⟩ = some (.int .i64 vo) ∧ w'.cell? ⟨vb, 3, none⟩ = some (.slice (some ⟨g, 0, none⟩) val.length cap) ∧ w'.cell? ⟨vb, 4, none⟩ = some (.bool gn) ∧ w'.cell? ⟨vb, 5, none⟩ = some (.int .i64 tt) ∧ w'.cell? ⟨sb, 1, none⟩ = some (.int .i64 ml) ∧ w'.cell? ⟨sb, 2, none⟩ = some (.int .i64 ct) ∧ w'.cell? ⟨sb, 3, none⟩ = some (.int .i64 vo) ∧ w'.cell? ⟨sb, 4, none⟩ = some (.slice xA val.length xc) ∧ w'.cell? ⟨sb, 5, none⟩ = some (.bool gn) ∧ w'.cell? ⟨sb, 6, none⟩ = some (.int .i64 tt))) (by kernel_rfl) (⟨HV4.out.c 0 _ rfl, HV4.out.c 1 _ rfl, HV4.out.c 2 _ rfl, HV4.out.c 3 _ rfl, HV4.out.c 4 _ rfl, HV4.out.c 5 _ rfl, HS4.out.c 1 _ rfl, HS4.out.c 2 _ rfl, HS4.out.c 3 _ rfl, HS4.out.c 4 _ rfl, HS4.out.c 5 _ rfl, HS4.out.c 6 _ rfl⟩) (fun hHeld => ?_)
                clear kd
                generalize W4.drew = V4 at *
                refine wpAnyH_take (i := 0) (v := ?_) rfl (by kernel_rfl) (by kernel_rfl) (by kernel_rfl) (fun _ _ _ h => h) (Or.inl ⟨by rfl, ?_⟩) (by assumption) ?_
                rotate_left
                · intro w' hSw; (try dsimp only at hSw); go_simp; (try with_reducible rfl)
                (try simp only [Act.put, List.setIfInBounds_toArray, List.set_cons_zero, List.set_cons_succ, List.getElem_toArray, List.getElem_cons_succ, List.getElem_cons_zero])
                refine wpAnyH_take (i := 1) (v := ?_) rfl (by kernel_rfl) (by kernel_rfl) (by kernel_rfl) (fun _ _ _ h => h) (Or.inl ⟨by rfl, ?_⟩) (by assumption) ?_
                rotate_left
                · intro w' hSw; (try dsimp only at hSw); go_simp; (try with_reducible rfl)
                (try simp only [Act.put, List.setIfInBounds_toArray, List.set_cons_zero, List.set_cons_succ, List.getElem_toArray, List.getElem_cons_succ, List.getElem_cons_zero])
                refine wpAnyH_take (i := 3) (v := ?_) rfl (by kernel_rfl) (by kernel_rfl) (by kernel_rfl) (fun _ _ _ h => h) (Or.inl ⟨by rfl, ?_⟩) (by assumption) ?_
                rotate_left
                · intro w' hSw; (try dsimp only at hSw); go_simp; (try with_reducible rfl)
                (try simp only [Act.put, List.setIfInBounds_toArray, List.set_cons_zero, List.set_cons_succ, List.getElem_toArray, List.getElem_cons_succ, List.getElem_cons_zero])
                refine wpAnyH_take (i := 4) (v := ?_) rfl (by kernel_rfl) (by kernel_rfl) (by kernel_rfl) (fun _ _ _ h => h) (Or.inl ⟨by rfl, ?_⟩) (by assumption) ?_
                rotate_left
                · intro w' hSw; (try dsimp only at hSw); go_simp; (try with_reducible rfl)
                (try simp only [Act.put, List.setIfInBounds_toArray, List.set_cons_zero, List.set_cons_succ, List.getElem_toArray, List.getElem_cons_succ, List.getElem_cons_zero])
                refine wpAnyH_take (i := 5) (v := ?_) rfl (by kernel_rfl) (by kernel_rfl) (by kernel_rfl) (fun _ _ _ h => h) (Or.inl ⟨by rfl, ?_⟩) (by assumption) ?_
                rotate_left
                · intro w' hSw; (try dsimp only at hSw); go_simp; (try with_reducible rfl)
                (try simp only [Act.put, List.setIfInBounds_toArray, List.set_cons_zero, List.set_cons_succ, List.getElem_toArray, List.getElem_cons_succ, List.getElem_cons_zero])
                refine wpAnyH_ready (rs := [2]) (by kernel_rfl) (by simp) ?_
                refine AllReadyH.cons rfl (fun K hK => ?_) AllReadyH.nil
                go_simp
                (go_at_call 15; refine (HPA.out V4 HCV.out HMC.out).mono ?_; rintro e w5 ⟨rfl, L5, hc5, hl5, hb5⟩; have HC5 := Lib.hid hc5; have HL5 := Lib.hid hl5; have HV5 := Lib.hid (HVV4.out.but hb5 (by intro q; omega)); have HS5 := Lib.hid (HSV4.out.but hb5 (by intro q; omega)); have HO5 := Lib.hid (hb5.row HOV.out (fun i hi q => by have e : g = i := Option.some.inj hi; have q2 : w.heap.size ≤ i ∧ (i < sb ∨ w3.heap.size ≤ i) := q; omega)); have HM5 := Lib.hid (HMV4.out.but hb5 (fun i q q2 => by have q3 : w.heap.size ≤ i ∧ (i < sb ∨ w3.heap.size ≤ i) := q; have q4 : i < w.heap.size := q2; omega)); clear hc5 hl5 hb5)
                (try dsimp only)
                refine hK.out _ _ ?_ (fun hHeld => ?_)
                · exact ⟨HV5.out.c 0 _ rfl, HV5.out.c 1 _ rfl, HV5.out.c 2 _ rfl, HV5.out.c 3 _ rfl, HV5.out.c 4 _ rfl, HV5.out.c 5 _ rfl, HS5.out.c 1 _ rfl, HS5.out.c 2 _ rfl, HS5.out.c 3 _ rfl, HS5.out.c 4 _ rfl, HS5.out.c 5 _ rfl, HS5.out.c 6 _ rfl⟩
                clear hK K
                (try simp only [Act.put, List.setIfInBounds_toArray, List.set_cons_zero, List.set_cons_succ, List.getElem_toArray, List.getElem_cons_succ, List.getElem_cons_zero])
                refine wpAnyH_ready (rs := [6]) (by kernel_rfl) (by simp) ?_
                refine AllReadyH.cons rfl (fun K hK => ?_) AllReadyH.nil
                go_simp
                (go_at_call 16; refine (HPB.out w5 L5 HC5.out (HM5.out.mono (fun _ _ _ => trivial))).mono ?_; rintro e w6 ⟨rfl, L6, hc6, hl6, hb6⟩; have HC6 := Lib.hid hc6.swap; have HL6 := Lib.hid hl6; have HV6 := Lib.hid (HV5.out.but hb6 (by intro q; omega)); have HS6 := Lib.hid (HS5.out.but hb6 (by intro q; omega)); have HO6 := Lib.hid (hb6.row HO5.out (fun i hi q => by have e : g = i := Option.some.inj hi; have q2 : w.heap.size ≤ i ∧ (i < sb ∨ w3.heap.size ≤ i) := q; omega)); have HM6 := Lib.hid (HM5.out.but hb6 (fun i q q2 => by have q3 : w.heap.size ≤ i ∧ (i < sb ∨ w3.heap.size ≤ i) := q; have q4 : i < w.heap.size := q2; omega)); clear hc6 hl6 hb6)
                (try dsimp only)
                refine hK.out _ _ ?_ (fun hHeld => ?_)
                · exact ⟨HV6.out.c 0 _ rfl, HV6.out.c 1 _ rfl, HV6.out.c 2 _ rfl, HV6.out.c 3 _ rfl, HV6.out.c 4 _ rfl, HV6.out.c 5 _ rfl, HS6.out.c 1 _ rfl, HS6.out.c 2 _ rfl, HS6.out.c 3 _ rfl, HS6.out.c 4 _ rfl, HS6.out.c 5 _ rfl, HS6.out.c 6 _ rfl⟩
                clear hK K
                (try simp only [Act.put, List.setIfInBounds_toArray, List.set_cons_zero, List.set_cons_succ, List.getElem_toArray, List.getElem_cons_succ, List.getElem_cons_zero])
                refine wpAnyH_take (i := 7) (v := ?_) rfl (by kernel_rfl) (by kernel_rfl) (by kernel_rfl) (fun _ _ _ h => h) (Or.inl ⟨by rfl, ?_⟩) (by assumption) ?_
                rotate_left
                · intro w' hSw; (try dsimp only at hSw); go_simp; (try with_reducible rfl)
                (try simp only [Act.put, List.setIfInBounds_toArray, List.set_cons_zero, List.set_cons_succ, List.getElem_toArray, List.getElem_cons_succ, List.getElem_cons_zero])
                refine wpAnyH_take (i := 8) (v := ?_) rfl (by kernel_rfl) (by kernel_rfl) (by kernel_rfl) (fun _ _ _ h => h) (Or.inl ⟨by rfl, ?_⟩) (by assumption) ?_
                rotate_left
                · intro w' hSw; (try dsimp only at hSw); go_simp; (try with_reducible rfl)
                (try simp only [Act.put, List.setIfInBounds_toArray, List.set_cons_zero, List.set_cons_succ, List.getElem_toArray, List.getElem_cons_succ, List.getElem_cons_zero])
                refine wpAnyH_take (i := 9) (v := ?_) rfl (by kernel_rfl) (by kernel_rfl) (by kernel_rfl) (fun _ _ _ h => h) (Or.inl ⟨by rfl, ?_⟩) (by assumption) ?_
                rotate_left
                · intro w' hSw; (try dsimp only at hSw); go_simp; (try with_reducible rfl)
                (try simp only [Act.put, List.setIfInBounds_toArray, List.set_cons_zero, List.set_cons_succ, List.getElem_toArray, List.getElem_cons_succ, List.getElem_cons_zero])
                refine wpAnyH_take (i := 10) (v := ?_) rfl (by kernel_rfl) (by kernel_rfl) (by kernel_rfl) (fun _ _ _ h => h) (Or.inl ⟨by rfl, ?_⟩) (by assumption) ?_
                rotate_left
                · intro w' hSw; (try dsimp only at hSw); go_simp; (try with_reducible rfl)
                (try simp only [Act.put, List.setIfInBounds_toArray, List.set_cons_zero, List.set_cons_succ, List.getElem_toArray, List.getElem_cons_succ, List.getElem_cons_zero])
                refine wpAnyH_take (i := 11) (v := ?_) rfl (by kernel_rfl) (by kernel_rfl) (by kernel_rfl) (fun _ _ _ h => h) (Or.inl ⟨by rfl, ?_⟩) (by assumption) ?_
                rotate_left
                · intro w' hSw; (try dsimp only at hSw); go_simp; (try with_reducible rfl)
                (try simp only [Act.put, List.setIfInBounds_toArray, List.set_cons_zero, List.set_cons_succ, List.getElem_toArray, List.getElem_cons_succ, List.getElem_cons_zero])
                refine wpAnyH_take (i := 12) (v := ?_) rfl (by kernel_rfl) (by kernel_rfl) (by kernel_rfl) (fun _ _ _ h => h) (Or.inl ⟨by rfl, ?_⟩) (by assumption) ?_
                rotate_left
                · intro w' hSw; (try dsimp only at hSw); go_simp; (try with_reducible rfl)
                (try simp only [Act.put, List.setIfInBounds_toArray, List.set_cons_zero, List.set_cons_succ, List.getElem_toArray, List.getElem_cons_succ, List.getElem_cons_zero])
                refine wpAnyH_take (i := 13) (v := ?_) rfl (by kernel_rfl) (by kernel_rfl) (by kernel_rfl) (fun _ _ _ h => h) (Or.inl ⟨by rfl, ?_⟩) (by assumption) ?_
                rotate_left
                · intro w' hSw; (try dsimp only at hSw); go_simp; (try with_reducible rfl)
                (try simp only [Act.put, List.setIfInBounds_toArray, List.set_cons_zero, List.set_cons_succ, List.getElem_toArray, List.getElem_cons_succ, List.getElem_cons_zero])
                refine wpAnyH_ready (rs := [14]) (by kernel_rfl) (by simp) ?_
                refine AllReadyH.cons rfl (fun K hK => ?_) AllReadyH.nil
                go_simp
                (go_at_call 17; refine (lsame (some ⟨g, 0, none⟩) val cap xA val xc w6 (by omega) (by omega) (own_byl HO6.out) HM6.out.b).mono ?_; rintro e w7 ⟨rfl, q, hq7⟩; have k7 : Below w6.heap.size w6 w7 := (by rw [hq7]; exact below_drewN15 w6 q); have HC7 := Lib.hid (HC6.out.below k7); have HV7 := Lib.hid (HV6.out.below k7); have HS7 := Lib.hid (HS6.out.below k7); have HO7 := Lib.hid (row_below HO6.out k7); clear hq7 k7)
                (try dsimp only)
                refine hK.out _ _ ?_ (fun hHeld => ?_)
                · exact ⟨HV7.out.c 0 _ rfl, HV7.out.c 1 _ rfl, HV7.out.c 2 _ rfl, HV7.out.c 3 _ rfl, HV7.out.c 4 _ rfl, HV7.out.c 5 _ rfl, HS7.out.c 1 _ rfl, HS7.out.c 2 _ rfl, HS7.out.c 3 _ rfl, HS7.out.c 4 _ rfl, HS7.out.c 5 _ rfl, HS7.out.c 6 _ rfl⟩
                clear hK K
                (try simp only [Act.put, List.setIfInBounds_toArray, List.set_cons_zero, List.set_cons_succ, List.getElem_toArray, List.getElem_cons_succ, List.getElem_cons_zero])
                refine wpAnyH_take (i := 15) (v := ?_) rfl (by kernel_rfl) (by kernel_rfl) (by kernel_rfl) (fun _ _ _ h => h) (Or.inl ⟨by rfl, ?_⟩) (by assumption) ?_
                rotate_left
                · intro w' hSw; (try dsimp only at hSw); go_simp; (try with_reducible rfl)
                (try simp only [Act.put, List.setIfInBounds_toArray, List.set_cons_zero, List.set_cons_succ, List.getElem_toArray, List.getElem_cons_succ, List.getElem_cons_zero])
                refine wpAnyH_take (i := 16) (v := ?_) rfl (by kernel_rfl) (by kernel_rfl) (by kernel_rfl) (fun _ _ _ h => h) (Or.inl ⟨by rfl, ?_⟩) (by assumption) ?_
                rotate_left
                · intro w' hSw; (try dsimp only at hSw); go_simp; (try with_reducible rfl)
                (try simp only [Act.put, List.setIfInBounds_toArray, List.set_cons_zero, List.set_cons_succ, List.getElem_toArray, List.getElem_cons_succ, List.getElem_cons_zero])
                refine wpAnyH_take (i := 17) (v := ?_) rfl (by kernel_rfl) (by kernel_rfl) (by kernel_rfl) (fun _ _ _ h => h) (Or.inl ⟨by rfl, ?_⟩) (by assumption) ?_
                rotate_left
                · intro w' hSw; (try dsimp only at hSw); go_simp; (try with_reducible rfl)
                (try simp only [Act.put, List.setIfInBounds_toArray, List.set_cons_zero, List.set_cons_succ, List.getElem_toArray, List.getElem_cons_succ, List.getElem_cons_zero])
                refine wpAnyH_take (i := 18) (v := ?_) rfl (by kernel_rfl) (by kernel_rfl) (by kernel_rfl) (fun _ _ _ h => h) (Or.inl ⟨by rfl, ?_⟩) (by assumption) ?_
                rotate_left
                · intro w' hSw; (try dsimp only at hSw); go_simp; (try with_reducible rfl)
                (try simp only [Act.put, List.setIfInBounds_toArray, List.set_cons_zero, List.set_cons_succ, List.getElem_toArray, List.getElem_cons_succ, List.getElem_cons_zero])
                refine wpAnyH_take (i := 19) (v := ?_) rfl (by kernel_rfl) (by kernel_rfl) (by kernel_rfl) (fun _ _ _ h => h) (Or.inl ⟨by rfl, ?_⟩) (by assumption) ?_
                rotate_left
                · intro w' hSw; (try dsimp only at hSw); go_simp; (try with_reducible rfl)
                (try simp only [Act.put, List.setIfInBounds_toArray, List.set_cons_zero, List.set_cons_succ, List.getElem_toArray, List.getElem_cons_succ, List.getElem_cons_zero])
                refine wpAnyH_take (i := 21) (v := ?_) rfl (by kernel_rfl) (by kernel_rfl) (by kernel_rfl) (fun _ _ _ h => h) (Or.inl ⟨by rfl, ?_⟩) (by assumption) ?_
                rotate_left
                · intro w' hSw; (try dsimp only at hSw); go_simp; (try with_reducible rfl)
                (try simp only [Act.put, List.setIfInBounds_toArray, List.set_cons_zero, List.set_cons_succ, List.getElem_toArray, List.getElem_cons_succ, List.getElem_cons_zero])
                refine wpAnyH_take (i := 22) (v := ?_) rfl (by kernel_rfl) (by kernel_rfl) (by kernel_rfl) (fun _ _ _ h => h) (Or.inl ⟨by rfl, ?_⟩) (by assumption) ?_
                rotate_left
                · intro w' hSw; (try dsimp only at hSw); go_simp; (try with_reducible rfl)
                (try simp only [Act.put, List.setIfInBounds_toArray, List.set_cons_zero, List.set_cons_succ, List.getElem_toArray, List.getElem_cons_succ, List.getElem_cons_zero])
                refine wpAnyH_ready (rs := [20]) (by kernel_rfl) (by simp) ?_
                refine AllReadyH.cons rfl (fun K hK => ?_) AllReadyH.nil
                go_simp
                (go_at_call 18; refine (ch_is ml ct vo xA val.length xc gn tt w7).mono ?_; rintro e w8 ⟨rfl, k8⟩; have HC8 := Lib.hid (HC7.out.below k8); have HV8 := Lib.hid (HV7.out.below k8); have HS8 := Lib.hid (HS7.out.below k8); have HO8 := Lib.hid (row_below HO7.out k8); clear k8)
                (try dsimp only)
                refine hK.out _ _ ?_ (fun hHeld => ?_)
                · exact ⟨HV8.out.c 0 _ rfl, HV8.out.c 1 _ rfl, HV8.out.c 2 _ rfl, HV8.out.c 3 _ rfl, HV8.out.c 4 _ rfl, HV8.out.c 5 _ rfl, HS8.out.c 1 _ rfl, HS8.out.c 2 _ rfl, HS8.out.c 3 _ rfl, HS8.out.c 4 _ rfl, HS8.out.c 5 _ rfl, HS8.out.c 6 _ rfl⟩
                clear hK K
                (try simp only [Act.put, List.setIfInBounds_toArray, List.set_cons_zero, List.set_cons_succ, List.getElem_toArray, List.getElem_cons_succ, List.getElem_cons_zero])
                refine wpAnyH_ready (rs := [23]) (by kernel_rfl) (by simp) ?_
                refine AllReadyH.cons rfl (fun K hK => ?_) AllReadyH.nil
                go_simp
                (go_at_call 19; refine (ref_version ml ct vo xA val.length xc gn tt w8).mono ?_; rintro e w9 ⟨rfl, k9⟩; have HC9 := Lib.hid (HC8.out.below k9); have HV9 := Lib.hid (HV8.out.below k9); have HS9 := Lib.hid (HS8.out.below k9); have HO9 := Lib.hid (row_below HO8.out k9); clear k9)
                (try dsimp only)
                refine hK.out _ _ ?_ (fun hHeld => ?_)
                · exact ⟨HV9.out.c 0 _ rfl, HV9.out.c 1 _ rfl, HV9.out.c 2 _ rfl, HV9.out.c 3 _ rfl, HV9.out.c 4 _ rfl, HV9.out.c 5 _ rfl, HS9.out.c 1 _ rfl, HS9.out.c 2 _ rfl, HS9.out.c 3 _ rfl, HS9.out.c 4 _ rfl, HS9.out.c 5 _ rfl, HS9.out.c 6 _ rfl⟩
                clear hK K
                (try simp only [Act.put, List.setIfInBounds_toArray, List.set_cons_zero, List.set_cons_succ, List.getElem_toArray, List.getElem_cons_succ, List.getElem_cons_zero])
                refine wpAnyH_take (i := 24) (v := ?_) rfl (by kernel_rfl) (by kernel_rfl) (by kernel_rfl) (fun _ _ _ h => h) (Or.inl ⟨by rfl, ?_⟩) (by assumption) ?_
                rotate_left
                · intro w' hSw; (try dsimp only at hSw); go_simp; (try with_reducible rfl)
                (try simp only [Act.put, List.setIfInBounds_toArray, List.set_cons_zero, List.set_cons_succ, List.getElem_toArray, List.getElem_cons_succ, List.getElem_cons_zero])
                refine wpAnyH_take (i := 25) (v := ?_) rfl (by kernel_rfl) (by kernel_rfl) (by kernel_rfl) (fun _ _ _ h => h) (Or.inl ⟨by rfl, ?_⟩) (by assumption) ?_
                rotate_left
                · intro w' hSw; (try dsimp only at hSw); go_simp; (try with_reducible rfl)
                (try simp only [Act.put, List.setIfInBounds_toArray, List.set_cons_zero, List.set_cons_succ, List.getElem_toArray, List.getElem_cons_succ, List.getElem_cons_zero])
                refine wpAnyH_done (by kernel_rfl) ?_ _
                have cv3 := HV9.out.c 3 _ rfl
                have lt9 := HV9.out.lt
                have HSP := Lib.hid (spoil_own _ val.length _ _ w9 HO9.out (by have h1 := World.ownsRow.lt HO9.out g rfl; omega) (by omega))
                have HCZ : Hid (∀ W, But (fun i => (Value.slice (some ⟨g, 0, none⟩) val.length cap).ownBlock = some i) w9 W → Cx w b bx L5 L6 sb w3.heap.size W) := Lib.hid (fun W hb => HC9.out.but hb (fun i hi => by have e : g = i := Option.some.inj hi; exact ⟨by omega, by omega⟩) hwz)
                clear hHeld
                go_wp2_with fail
                refine HSP.out.mono ?_; rintro e wA ⟨rfl, hbA⟩
                have HCA := Lib.hid (HCZ.out wA hbA).old
                have hl5 : L5.length ≤ 301 + j2 := by have h1 := congrArg List.length HL5.out; have h2 := HRL.out; simp at h1; omega
                have HE56 := Lib.hid (HL5.out.trans HL6.out.symm)
                clear hbA HSP
                go_wp2_with fail
                go_meet
                exact ⟨L5, L6, HCA.out, HE56.out, hl5⟩
            by_cases h2 : k = 2
            · have hk := h2
              clear h1 h2
              as_aux_lemma =>
                subst hk
                have c0 := HS1.out.c 0 _ rfl
                have c1 := HS1.out.c 1 _ rfl
                have c2 := HS1.out.c 2 _ rfl
                have c3 := HS1.out.c 3 _ rfl
                have c4 := HS1.out.c 4 _ rfl
                have c5 := HS1.out.c 5 _ rfl
                have c6 := HS1.out.c 6 _ rfl
                have c7 := HS1.out.c 7 _ rfl
                have c8 := HS1.out.c 8 _ rfl
                have lt := HS1.out.lt
                obtain ⟨y, hy⟩ : ∃ y, (atU (L.map Mv.v) (t1, t2)).2 = y := ⟨_, rfl⟩
                obtain ⟨V, hV⟩ : ∃ V, (atU (L.map Mv.v) (t1, t2)).1 = V := ⟨_, rfl⟩
                obtain ⟨u, hu⟩ : ∃ u, (getU (L.map Mv.v) (t1, t2)).2 = u := ⟨_, rfl⟩
                obtain ⟨G, hG⟩ : ∃ G, (getU (L.map Mv.v) (t1, t2)).1 = G := ⟨_, rfl⟩
                have hGs : G.length ≤ 100000 := by rw [← hG]; exact getU_len HC1.out.ok
                have hGl : G.length ≤ 1000000 := by omega
                have HY := Lib.hid (And.intro hy (And.intro hV (And.intro hu hG)))
                have HCA : Hid (∀ W, Below W1.heap.size W1 W → Calls Try.prog 21 #[.pointer (some ⟨b, 0, none⟩), .agg #[.int .i64 t1, .int .i64 t2]] W fun e w' => ∃ m, e = .returned (.tuple #[Mv.val m, .bool y]) ∧ m.v = V ∧ m.At (fun _ => True) w' ∧ Below W.heap.size W w') := Lib.hid (fun W q => by
                  have h := cx_atU t1 t2 (HCF.out W q) (by omega)
                  rw [HY.out.1, HY.out.2.1] at h
                  exact h)
                have HRA : Hid (∀ W, Below W1.heap.size W1 W → Calls Try.prog 22 #[.pointer (some ⟨bx, 0, none⟩), .agg #[.int .i64 t1, .int .i64 t2]] W fun e w' => ∃ m, e = .returned (.tuple #[Mv.val m, .bool y]) ∧ m.v = V ∧ m.At (fun _ => True) w' ∧ Below W.heap.size W w') := Lib.hid (fun W q => by
                  have h := cx_ratU t1 t2 (HCF.out W q) (by omega)
                  rw [← HEQ.out, HY.out.1, HY.out.2.1] at h
                  exact h)
                have HCG : Hid (∀ W, Below W1.heap.size W1 W → Calls Try.prog 23 #[.pointer (some ⟨b, 0, none⟩), .agg #[.int .i64 t1, .int .i64 t2]] W fun e w' => ∃ A c, e = .returned (.tuple #[.slice A G.length c, .bool u]) ∧ w'.ownsRow W.heap.size 5 1 (.slice A G.length c) G.length (bC G) ∧ Below W.heap.size W w') := Lib.hid (fun W q => by
                  have h := cx_getU t1 t2 (HCF.out W q) (by omega) HT1.out
                  rw [HY.out.2.2.1, HY.out.2.2.2] at h
                  exact h)
                have HRG : Hid (∀ W, Below W1.heap.size W1 W → Calls Try.prog 24 #[.pointer (some ⟨bx, 0, none⟩), .agg #[.int .i64 t1, .int .i64 t2]] W fun e w' => ∃ A c, e = .returned (.tuple #[.slice A G.length c, .bool u]) ∧ ByL w' A G ∧ Below W.heap.size W w') := Lib.hid (fun W q => by
                  have h := cx_rgetU t1 t2 (HCF.out W q) (by omega) HT1.out
                  rw [← HEQ.out, HY.out.2.2.1, HY.out.2.2.2] at h
                  exact h)
                clear hy hV hu hG
                go_wp2_with fail
                refine (HCA.out _ (Below.refl _ _)).mono ?_; rintro e w2 ⟨⟨⟨ml1, ct1, vo1, val1, gn1, tt1⟩, A1, cc1⟩, rfl, hv1, hat1, k2⟩
                obtain ⟨W2, hW2⟩ : ∃ W2, w2.alloc (.cells #[.int .i64 ml1, .int .i64 ct1, .int .i64 vo1, .slice A1 val1.length cc1, .bool gn1, .int .i64 tt1] 28) = W2 := ⟨_, rfl⟩
                have kw2 : Below w2.heap.size w2 W2 := by rw [← hW2]; (repeat' (first | (with_reducible exact Below.refl _ _) | (with_reducible assumption) | (with_reducible refine Below.trans ?_ (Below.mono (by with_reducible assumption) ?_)) | (with_reducible refine Below.alloc ?_ ?_ _) | (with_reducible refine Below.setCell ?_ ?_ _) | (with_reducible refine below_drewN ?_ _) | (with_reducible refine Below.drew ?_) | go_size))
                have hx2 : XB W2 w2.heap.size [.int .i64 ml1, .int .i64 ct1, .int .i64 vo1, .slice A1 val1.length cc1, .bool gn1, .int .i64 tt1] := by rw [← hW2]; exact XB.new w2 #[.int .i64 ml1, .int .i64 ct1, .int .i64 vo1, .slice A1 val1.length cc1, .bool gn1, .int .i64 tt1] _
                have HK2 : Hid (Below W1.heap.size W1 W2) := Lib.hid (k2.trans (kw2.mono k2.size))
                have HX2 := Lib.hid hx2
                have HA1 := Lib.hid (hat1.below kw2)
                have HV1 := Lib.hid hv1
                clear c0 c1 c2 c3 c4 c5 c6 c7 c8 k2 hat1 hv1 kw2 hx2
                have hS2 := HS1.out.below HK2.out
                have c7 := hS2.c 7 _ rfl
                have c8 := hS2.c 8 _ rfl
                have lt2 := hS2.lt
                clear hS2 lt
                go_upto_region 29 with fail
                (try rw [hW2])
                obtain ⟨B1, hB1⟩ : ∃ B1, w2.heap.size = B1 := ⟨_, rfl⟩
                rw [hB1] at HX2
                rw [hB1]
                clear hW2 hB1
                go_wp2_with fail
                refine (HRA.out _ HK2.out).mono ?_; rintro e w3 ⟨⟨⟨ml2, ct2, vo2, val2, gn2, tt2⟩, A2, cc2⟩, rfl, hv2, hat2, k3⟩
                obtain ⟨W3, hW3⟩ : ∃ W3, w3.alloc (.cells #[.int .i64 ml2, .int .i64 ct2, .int .i64 vo2, .slice A2 val2.length cc2, .bool gn2, .int .i64 tt2] 28) = W3 := ⟨_, rfl⟩
                have kw3 : Below w3.heap.size w3 W3 := by rw [← hW3]; (repeat' (first | (with_reducible exact Below.refl _ _) | (with_reducible assumption) | (with_reducible refine Below.trans ?_ (Below.mono (by with_reducible assumption) ?_)) | (with_reducible refine Below.alloc ?_ ?_ _) | (with_reducible refine Below.setCell ?_ ?_ _) | (with_reducible refine below_drewN ?_ _) | (with_reducible refine Below.drew ?_) | go_size))
                have hx3 : XB W3 w3.heap.size [.int .i64 ml2, .int .i64 ct2, .int .i64 vo2, .slice A2 val2.length cc2, .bool gn2, .int .i64 tt2] := by rw [← hW3]; exact XB.new w3 #[.int .i64 ml2, .int .i64 ct2, .int .i64 vo2, .slice A2 val2.length cc2, .bool gn2, .int .i64 tt2] _
                have HK23 : Hid (Below W2.heap.size W2 W3) := Lib.hid (k3.trans (kw3.mono k3.size))
                have HK3 : Hid (Below W1.heap.size W1 W3) := Lib.hid (HK2.out.trans (HK23.out.mono HK2.out.size))
                have HX3 := Lib.hid hx3
                have HX23 := Lib.hid (HX2.out.below HK23.out)
                have HA2 := Lib.hid (hat2.below kw3)
                have HA13 := Lib.hid (HA1.out.below HK23.out)
                have HVV : Hid ((⟨ml1, ct1, vo1, val1, gn1, tt1⟩ : Vs) = ⟨ml2, ct2, vo2, val2, gn2, tt2⟩) := Lib.hid (HV1.out.trans hv2.symm)
                clear c7 c8 lt2 k3 hat2 hv2 kw3 hx3
                have hS3 := HS1.out.below HK3.out
                have c7 := hS3.c 7 _ rfl
                have c8 := hS3.c 8 _ rfl
                have lt3 := hS3.lt
                clear hS3
                go_upto_region 30 with fail
                (try rw [hW3])
                obtain ⟨B2, hB2⟩ : ∃ B2, w3.heap.size = B2 := ⟨_, rfl⟩
                rw [hB2] at HX3
                rw [hB2]
                clear hW3 hB2
                go_wp2_with fail
                refine (HCG.out _ HK3.out).mono ?_; rintro e w4 ⟨A3, c3, rfl, ho4, k4⟩
                have HK4 := Lib.hid (HK3.out.trans (k4.mono HK3.out.size))
                have HK34 := Lib.hid k4
                have HO4 := Lib.hid ho4
                clear c7 c8 lt3 k4 ho4
                have hS4 := HS1.out.below HK4.out
                have c7 := hS4.c 7 _ rfl
                have c8 := hS4.c 8 _ rfl
                have lt4 := hS4.lt
                clear hS4
                go_wp2_with fail
                refine (HRG.out _ HK4.out).mono ?_; rintro e w5 ⟨A4, c4, rfl, hby5, k5⟩
                have HK5 := Lib.hid (HK4.out.trans (k5.mono HK4.out.size))
                have HK35 := Lib.hid (HK34.out.trans (k5.mono HK34.out.size))
                have HO5 := Lib.hid (row_below HO4.out k5)
                have HBY5 := Lib.hid hby5
                have hX5 := HX23.out.below HK35.out
                have hY5 := HX3.out.below HK35.out
                have a0 := hX5.c 0 _ rfl
                have a1 := hX5.c 1 _ rfl
                have a2 := hX5.c 2 _ rfl
                have a3 := hX5.c 3 _ rfl
                have a4 := hX5.c 4 _ rfl
                have a5 := hX5.c 5 _ rfl
                have b0 := hY5.c 0 _ rfl
                have b1 := hY5.c 1 _ rfl
                have b2 := hY5.c 2 _ rfl
                have b3 := hY5.c 3 _ rfl
                have b4 := hY5.c 4 _ rfl
                have b5 := hY5.c 5 _ rfl
                have la := hX5.lt
                have lb := hY5.lt
                have HA15 := Lib.hid (HA13.out.below HK35.out)
                have HA25 := Lib.hid (HA2.out.below HK35.out)
                have HSV : Hid (Calls Try.prog 25 #[verV ml1 ct1 vo1 A1 val1.length cc1 gn1 tt1, verV ml2 ct2 vo2 A2 val2.length cc2 gn2 tt2] w5 fun e w' => e = .returned (.bool true) ∧ Below w5.heap.size w5 w') := Lib.hid (by
                  have h := ref_sameV ml1 ct1 vo1 val1 gn1 tt1 A1 cc1 ml2 ct2 vo2 val2 gn2 tt2 A2 cc2 w5 HA15.out.b HA15.out.y HA15.out.n HA25.out.b HA25.out.y HA25.out.n
                  rw [(sameVB_iff ⟨ml1, ct1, vo1, val1, gn1, tt1⟩ ⟨ml2, ct2, vo2, val2, gn2, tt2⟩).2 HVV.out] at h
                  exact h)
                have ty : (y != y) = false := by cases y <;> rfl
                have tu : (u != u) = false := by cases u <;> rfl
                clear c7 c8 lt4 k5 hby5 hX5 hY5
                go_wp2_with fail
                refine HSV.out.mono ?_; rintro e w6 ⟨rfl, k6⟩
                have HK6 := Lib.hid (HK5.out.trans (k6.mono HK5.out.size))
                have HK56 := Lib.hid k6
                have HO6 := Lib.hid (row_below HO5.out k6)
                have HLS := Lib.hid (lsame A3 G c3 A4 G c4 w6 hGl hGl (own_byl HO6.out) (HBY5.out.below k6))
                clear k6 HSV a0 a1 a2 a3 a4 a5 b0 b1 b2 b3 b4 b5 la lb
                go_wp2_with fail
                refine HLS.out.mono ?_; rintro e w7 ⟨rfl, q, hq7⟩
                have k7 : Below w6.heap.size w6 w7 := by rw [hq7]; exact below_drewN15 w6 q
                have HK7 := Lib.hid (HK6.out.trans (k7.mono HK6.out.size))
                have HO7 := Lib.hid (row_below HO6.out k7)
                have hdG : decide (G = G) = true := by simp
                have hbz7 : W3.heap.size ≤ w7.heap.size := by have h1 := HK35.out.size; have h2 := HK56.out.size; have h3 := k7.size; omega
                have HSP := Lib.hid (spoil_own (.slice A3 G.length c3) G.length W3.heap.size (bC G) w7 HO7.out hbz7 hGs)
                have HC8 : Hid (∀ W, But (fun i => (Value.slice A3 G.length c3).ownBlock = some i) w7 W → Cx w b bx L L' sb w7.heap.size W) := Lib.hid (fun W hb => (HCF.out w7 HK7.out).but hb (fun i hi => ⟨by have h1 := (World.ownsRow.lt HO7.out i hi).1; have h2 := HK3.out.size; omega, (World.ownsRow.lt HO7.out i hi).2⟩) hwz)
                clear hq7 k7 HLS
                go_wp2_with fail
                refine HSP.out.mono ?_; rintro e w8 ⟨rfl, hb8⟩
                have HC9 := Lib.hid (HC8.out w8 hb8).old
                clear hb8 HSP
                go_wp2_with fail
                go_meet
                exact ⟨L, L', HC9.out, HEQ.out, by omega⟩
            by_cases h3 : k = 3
            · have hk := h3
              clear h1 h2 h3
              as_aux_lemma =>
                subst hk
                have c0 := HS1.out.c 0 _ rfl
                have c1 := HS1.out.c 1 _ rfl
                have c2 := HS1.out.c 2 _ rfl
                have c3 := HS1.out.c 3 _ rfl
                have c4 := HS1.out.c 4 _ rfl
                have c5 := HS1.out.c 5 _ rfl
                have c6 := HS1.out.c 6 _ rfl
                have c7 := HS1.out.c 7 _ rfl
                have c8 := HS1.out.c 8 _ rfl
                have lt := HS1.out.lt
                have HCE : Hid (cutM (L'.map Mv.v) (t1, t2) = cutM (L.map Mv.v) (t1, t2)) := Lib.hid (by rw [HEQ.out])
                go_upto_region 36 with fail
                have kd : Below W1.heap.size W1 W1.drew := (Below.refl _ _).drew
                have HCV := Lib.hid (HC1.out.below kd)
                have HSV := Lib.hid (HS1.out.below kd)
                refine wp_region_held_drew (S := (fun w' => w'.cell? ⟨sb, 7, none⟩ = some (.int .i64 t1) ∧ w'.cell? ⟨sb, 8, none⟩ = some (.int .i64 t2))) (by kernel_rfl) (⟨c7, c8⟩) (fun hHeld => ?_)
                clear kd
                generalize W1.drew = V at *
                refine wpAnyH_take (i := 0) (v := ?_) rfl (by kernel_rfl) (by kernel_rfl) (by kernel_rfl) (fun _ _ _ h => h) (Or.inl ⟨by rfl, ?_⟩) (by assumption) ?_
                rotate_left
                · intro w' hSw; (try dsimp only at hSw); go_simp; (try with_reducible rfl)
                (try simp only [Act.put, List.setIfInBounds_toArray, List.set_cons_zero, List.set_cons_succ, List.getElem_toArray, List.getElem_cons_succ, List.getElem_cons_zero])
                refine wpAnyH_take (i := 1) (v := ?_) rfl (by kernel_rfl) (by kernel_rfl) (by kernel_rfl) (fun _ _ _ h => h) (Or.inl ⟨by rfl, ?_⟩) (by assumption) ?_
                rotate_left
                · intro w' hSw; (try dsimp only at hSw); go_simp; (try with_reducible rfl)
                (try simp only [Act.put, List.setIfInBounds_toArray, List.set_cons_zero, List.set_cons_succ, List.getElem_toArray, List.getElem_cons_succ, List.getElem_cons_zero])
                refine wpAnyH_take (i := 2) (v := ?_) rfl (by kernel_rfl) (by kernel_rfl) (by kernel_rfl) (fun _ _ _ h => h) (Or.inl ⟨by rfl, ?_⟩) (by assumption) ?_
                rotate_left
                · intro w' hSw; (try dsimp only at hSw); go_simp; (try with_reducible rfl)
                (try simp only [Act.put, List.setIfInBounds_toArray, List.set_cons_zero, List.set_cons_succ, List.getElem_toArray, List.getElem_cons_succ, List.getElem_cons_zero])
                refine wpAnyH_take (i := 4) (v := ?_) rfl (by kernel_rfl) (by kernel_rfl) (by kernel_rfl) (fun _ _ _ h => h) (Or.inl ⟨by rfl, ?_⟩) (by assumption) ?_
                rotate_left
                · intro w' hSw; (try dsimp only at hSw); go_simp; (try with_reducible rfl)
                (try simp only [Act.put, List.setIfInBounds_toArray, List.set_cons_zero, List.set_cons_succ, List.getElem_toArray, List.getElem_cons_succ, List.getElem_cons_zero])
                refine wpAnyH_take (i := 5) (v := ?_) rfl (by kernel_rfl) (by kernel_rfl) (by kernel_rfl) (fun _ _ _ h => h) (Or.inl ⟨by rfl, ?_⟩) (by assumption) ?_
                rotate_left
                · intro w' hSw; (try dsimp only at hSw); go_simp; (try with_reducible rfl)
                (try simp only [Act.put, List.setIfInBounds_toArray, List.set_cons_zero, List.set_cons_succ, List.getElem_toArray, List.getElem_cons_succ, List.getElem_cons_zero])
                refine wpAnyH_take (i := 6) (v := ?_) rfl (by kernel_rfl) (by kernel_rfl) (by kernel_rfl) (fun _ _ _ h => h) (Or.inl ⟨by rfl, ?_⟩) (by assumption) ?_
                rotate_left
                · intro w' hSw; (try dsimp only at hSw); go_simp; (try with_reducible rfl)
                (try simp only [Act.put, List.setIfInBounds_toArray, List.set_cons_zero, List.set_cons_succ, List.getElem_toArray, List.getElem_cons_succ, List.getElem_cons_zero])
                refine wpAnyH_ready (rs := [3]) (by kernel_rfl) (by simp) ?_
                refine AllReadyH.cons rfl (fun K hK => ?_) AllReadyH.nil
                go_simp
                (go_at_call 26; refine (cx_trim t1 t2 HCV.out (by omega) HT1.out).mono ?_; rintro e w2 ⟨rfl, hc2, hb2⟩; have HC2 := Lib.hid hc2; have HS2 := Lib.hid (HSV.out.but hb2 (by intro q; have := hk1; omega)); clear hc2 hb2)
                (try dsimp only)
                refine hK.out _ _ ?_ (fun hHeld => ?_)
                · exact ⟨HS2.out.c 7 _ rfl, HS2.out.c 8 _ rfl⟩
                clear hK K
                (try simp only [Act.put, List.setIfInBounds_toArray, List.set_cons_zero, List.set_cons_succ, List.getElem_toArray, List.getElem_cons_succ, List.getElem_cons_zero])
                refine wpAnyH_ready (rs := [7]) (by kernel_rfl) (by simp) ?_
                refine AllReadyH.cons rfl (fun K hK => ?_) AllReadyH.nil
                go_simp
                (go_at_call 27; refine (cx_rtrim t1 t2 HC2.out (by omega) HT1.out).mono ?_; rintro e w3 ⟨rfl, hc3, hb3⟩; have HC3 := Lib.hid hc3.swap; have HS3 := Lib.hid (HS2.out.but hb3 (by intro q; have := hk1; omega)); clear hc3 hb3)
                (try dsimp only)
                refine hK.out _ _ ?_ (fun hHeld => ?_)
                · exact ⟨HS3.out.c 7 _ rfl, HS3.out.c 8 _ rfl⟩
                clear hK K
                (try simp only [Act.put, List.setIfInBounds_toArray, List.set_cons_zero, List.set_cons_succ, List.getElem_toArray, List.getElem_cons_succ, List.getElem_cons_zero])
                refine wpAnyH_take (i := 8) (v := ?_) rfl (by kernel_rfl) (by kernel_rfl) (by kernel_rfl) (fun _ _ _ h => h) (Or.inl ⟨by rfl, ?_⟩) (by assumption) ?_
                rotate_left
                · intro w' hSw; (try dsimp only at hSw); go_simp; (try with_reducible rfl)
                (try simp only [Act.put, List.setIfInBounds_toArray, List.set_cons_zero, List.set_cons_succ, List.getElem_toArray, List.getElem_cons_succ, List.getElem_cons_zero])
                refine wpAnyH_done (by kernel_rfl) ?_ _
                rw [HCE.out]
                have HEQ3 : Hid ((L.drop (cutM (L.map Mv.v) (t1, t2))).map Mv.v = (L'.drop (cutM (L'.map Mv.v) (t1, t2))).map Mv.v) := Lib.hid (by rw [HCE.out, List.map_drop, List.map_drop, HEQ.out])
                have hld : (L.drop (cutM (L.map Mv.v) (t1, t2))).length ≤ 301 + j2 := by rw [List.length_drop]; omega
                obtain ⟨cm, hcm⟩ : ∃ cm, ((cutM (L.map Mv.v) (t1, t2) : Nat) : Int) = cm := ⟨_, rfl⟩
                have tcm : (cm != cm) = false := by simp
                have lt3 := HS3.out.lt
                rw [hcm]
                clear c0 c1 c2 c3 c4 c5 c6 c7 c8 lt hHeld hcm
                go_wp2_with fail
                go_meet
                exact ⟨_, _, HC3.out.old, HEQ3.out, hld⟩
            as_aux_lemma =>
              have c0 := HS1.out.c 0 _ rfl
              have c1 := HS1.out.c 1 _ rfl
              have c2 := HS1.out.c 2 _ rfl
              have c3 := HS1.out.c 3 _ rfl
              have c4 := HS1.out.c 4 _ rfl
              have c5 := HS1.out.c 5 _ rfl
              have c6 := HS1.out.c 6 _ rfl
              have c7 := HS1.out.c 7 _ rfl
              have c8 := HS1.out.c 8 _ rfl
              have lt := HS1.out.lt
              have e1 : (k == 1) = false := by simpa using h1
              have e2 : (k == 2) = false := by simpa using h2
              have e3 : (k == 3) = false := by simpa using h3
              go_wp2_with fail
              go_meet
              exact ⟨L, L', HC1.out.old, HEQ.out, by omega⟩
          case rest =>
          obtain ⟨L9, L9', hcx9, heq9, hl9⟩ := hcut
          have HC9 := Lib.hid hcx9
          have HE9 := Lib.hid heq9
          have hl9' : L9'.length ≤ 301 + j2 := by have := congrArg List.length heq9; simp at this; omega
          clear hcx9 heq9 HS1 HC1 HM1 HT1 HEQ hll hl2 hvl hwz hk1
          generalize wc = W3 at *
          have w2 : IntKind.i64.wrap ((j2 : Int) + 1) = (j2 : Int) + 1 := IntWalk.i64_in _ (by omega)
          go_wp2_with fail
          refine (cx_all HC9.out (by omega)).mono ?_; rintro e w2 ⟨vA, LM, rfl, hcp, hmA, kA⟩
          obtain ⟨AA2, cA2, rfl⟩ := cps_shape hcp
          have HCP := Lib.hid hcp
          have HMA := Lib.hid hmA
          have hlm : LM.length ≤ 1000000 := by have := congrArg List.length hmA; simp at this; omega
          have HC4 := Lib.hid (HC9.out.fence (Nat.le_refl _) kA)
          have HK4 := Lib.hid kA
          clear hcp hmA kA
          obtain ⟨A9, c9, hx9, hrow9, hat9, hlt9⟩ := HC4.out.rrow
          have HLV := Lib.hid (lversions AA2 A9 LM L9' cA2 c9 w2 (cpx_rowA HCP.out) hrow9 (cpx_ats HCP.out (byx_of_map HMA.out HC9.out.by_)) hat9 (by omega) (by omega))
          clear hrow9 hat9
          go_wp2_with fail
          refine HLV.out.mono ?_; rintro e w3 ⟨⟨bv, rfl, hbv⟩, k3⟩
          obtain rfl : bv = true := hbv.2 (HMA.out.trans HE9.out)
          have HC5 := Lib.hid (HC4.out.below k3)
          have HP5 := Lib.hid (HCP.out.below k3)
          have hs5 : W3.heap.size ≤ w2.heap.size ∧ w2.heap.size ≤ w3.heap.size := ⟨HK4.out.size, k3.size⟩
          have hWw := HC9.out.bel.size
          have HGB : Hid (∀ (i : Nat) (x : Mv), LM[i]? = some x → ∀ g, x.sl.ownBlock = some g → g < w2.heap.size) := Lib.hid (fun i x hx g hg => (World.ownsRow.lt (HCP.out.own x (List.mem_of_getElem? hx)) g hg).2)
          clear hbv k3 HLV hx9 hlt9 HCP
          go_wp2_with fail
          go_loopw [23] (fun i wr => ∃ k : Nat, k ≤ LM.length ∧ i = .int .i64 k ∧ Cx w b bx L9 L9' W3.heap.size w2.heap.size wr ∧ wr.ownsRow W3.heap.size 28 6 (.slice AA2 LM.length cA2) LM.length (rowV LM) ∧ Hid (∀ (i : Nat) (x : Mv), k ≤ i → LM[i]? = some x → wr.ownsRow W3.heap.size 5 1 x.sl x.v.val.length (bC x.v.val)) ∧ (∀ (i : Nat) (x : Mv), LM[i]? = some x → ∀ g, x.sl.ownBlock = some g → g < w2.heap.size)) (fun i _ => LM.length - (intOf i).toNat)
          case atStart => exact ⟨0, Nat.zero_le _, rfl, HC5.out, HP5.out.row, Lib.hid (fun i x _ hx => HP5.out.own x (List.mem_of_getElem? hx)), HGB.out⟩
          case round =>
            obtain ⟨k3, hk3, rfl, hcq, hrq, HOQ, hgb⟩ := hrel
            have HCQ := Lib.hid hcq
            have HRQ := Lib.hid hrq
            have HGQ := Lib.hid hgb
            clear hcq hrq hgb
            by_cases hlt3 : k3 < LM.length
            · have lk3 : (k3 : Int) < (LM.length : Int) := by omega
              have wk3 : IntKind.i64.wrap ((k3 : Int) + 1) = (k3 : Int) + 1 := IntWalk.i64_in _ (by omega)
              obtain ⟨g, cap, e9, _, _, hg⟩ := row_shape HRQ.out (by omega)
              injection e9 with q1 q2 q3
              subst q1 q3
              have hx : LM[k3]? = some LM[k3] := List.getElem?_eq_getElem hlt3
              generalize LM[k3] = x at *
              have r3 : wr.cell? ⟨g, k3 * 6 + 3, none⟩ = some (.slice x.A x.v.val.length x.c) := by have h := row_cell HRQ.out (rowV_at hx 3 (by omega)); first | exact h | (rwa [Nat.zero_add] at h)
              have hvx : x.v.val.length ≤ 100000 := by
                have h1 := HC9.out.ok
                have h2 := List.mem_map_of_mem (f := Mv.v) (List.mem_of_getElem? hx)
                rw [HMA.out] at h2
                obtain ⟨y, hy, hyv⟩ := List.mem_map.1 h2
                have h3 := (ok_bd (h1 y hy)).2.2.2.2.2.2.1
                rw [hyv] at h3
                omega
              have hsz := HCQ.out.bel.size
              have htop := HCQ.out.top
              have HSP := Lib.hid (spoil_own x.sl x.v.val.length W3.heap.size _ wr (HOQ.out k3 x (Nat.le_refl _) hx) (by omega) hvx)
              have HNX : Hid (∀ W, But (fun i => x.sl.ownBlock = some i) wr W → Cx w b bx L9 L9' W3.heap.size w2.heap.size W ∧ W.ownsRow W3.heap.size 28 6 (.slice (some ⟨g, 0, none⟩) LM.length cA2) LM.length (rowV LM) ∧ Hid (∀ (i : Nat) (y : Mv), k3 + 1 ≤ i → LM[i]? = some y → W.ownsRow W3.heap.size 5 1 y.sl y.v.val.length (bC y.v.val))) := Lib.hid (fun W hb =>
                ⟨HCQ.out.but hb (fun i hi => ⟨(World.ownsRow.lt (HOQ.out k3 x (Nat.le_refl _) hx) i hi).1, HGQ.out k3 x hx i hi⟩) (by omega), hb.row HRQ.out (fun i hi hi2 => HP5.out.ne x (List.mem_of_getElem? hx) i hi2 hi), Lib.hid (fun i y hi hy => hb.row (HOQ.out i y (by omega) hy) (fun i2 h1 h2 => HP5.out.dis k3 i x y (by omega) hx hy i2 h2 h1))⟩)
              clear hx hvx hlt3
              go_wp2_with fail
              refine HSP.out.mono ?_; rintro e w7 ⟨rfl, hb7⟩
              have HN7 := Lib.hid (HNX.out w7 hb7)
              clear hb7 HSP HNX
              go_wp2_with fail
              go_roundw
              case rel => exact ⟨k3 + 1, by omega, by go_num, HN7.out.1, HN7.out.2.1, HN7.out.2.2, HGQ.out⟩
              case measure => simp [intOf]; omega
            · obtain rfl : k3 = LM.length := by omega
              have lk3 : ¬ (LM.length : Int) < (LM.length : Int) := by omega
              have tk3 : decide ((LM.length : Int) < (LM.length : Int)) = false := by simp
              have HCO := Lib.hid HCQ.out.old
              clear hlt3
              go_wp2_with fail
              go_roundw
              case rel => exact ⟨j2 + 1, L9, L9', by omega, by omega, by go_num, HCO.out, HE9.out, by omega⟩
              case measure => simp [intOf]; omega
    · subst hbb
      have hlt : j < S.length ∧ j < 100 := by have h := HBB.out; simpa using h.symm
      obtain ⟨hlt, h40⟩ := hlt
      have lk : (j : Int) < (S.length : Int) := by omega
      have l40 : (j : Int) < 100 := by omega
      as_aux_lemma =>
        have hi1 : ((j : Int).toNat) = j := by simp
        obtain ⟨B, O, rfl, hBl, hcell⟩ := HR.out (by omega)
        have hx : S[j]? = some S[j] := List.getElem?_eq_getElem hlt
        generalize S[j] = x at *
        have hxs := (HIN.out j x hx).2
        have hrc : wr.cell? ⟨B, O + j * 9 + 1 + 3, none⟩ = some (.slice x.m.A x.m.v.val.length x.m.c) := by rw [Nat.add_assoc, Nat.add_assoc]; exact (HB.out.cell (p := ⟨B, O + (j * 9 + (1 + 3)), none⟩) hBl).trans (hcell _ _ (fm_at Ay.cs 9 Ay.len hx 4 (by omega)))
        have HX := Lib.hid hx
        have hmi : (m : Int) ≤ 8000 := by omega
        obtain ⟨vl, hvl⟩ : ∃ vl, x.m.v.val.length = vl := ⟨_, rfl⟩
        have HVL := Lib.hid hvl
        rw [hvl] at hrc hxs
        have w1 : IntKind.i64.wrap ((m : Int) + 30) = (m : Int) + 30 := IntWalk.i64_in _ (by omega)
        have w2 : IntKind.i64.wrap ((j : Int) + 1) = (j : Int) + 1 := IntWalk.i64_in _ (by omega)
        have w3 : IntKind.i64.wrap ((m : Int) + 30 + (vl : Int)) = (m : Int) + 30 + (vl : Int) := IntWalk.i64_in _ (by omega)
        clear hx hBl hcell hlt h40 hvl
        by_cases hg : 8000 < m + 30 + vl
        · have hg' : (8000 : Int) < (m : Int) + 30 + (vl : Int) := by omega
          clear hg
          go_wp2_with fail
          go_ret
          exact ⟨rfl, HB.out⟩
        have hg' : ¬ (8000 : Int) < (m : Int) + 30 + (vl : Int) := by omega
        have HNX : Hid (∀ i y, i < j + 1 → S[i]? = some y → y.m.v.val.length ≤ 8000) := Lib.hid (fun i y hi hy => by
          rcases Nat.lt_succ_iff_lt_or_eq.1 hi with h | rfl
          · exact HO.out i y h hy
          · have e := HX.out.symm.trans hy
            injection e with e
            subst e
            have := HVL.out
            omega)
        clear HO
        go_wp2_with fail
        go_roundw
        case rel => exact ⟨j + 1, m + 30 + vl, by omega, by omega, by go_num, by go_num, by omega, HB.out, HNX⟩
        case measure => simp [intOf]; omega
end Go.Proofs.Ytfjnjababehmmaa

/- Stage 15: ChainPlays: the claim. -/
namespace Go.Proofs.Ytfjnjababehmmaa
open Go.ChangeShapes Go.WideShapes Go.ChangeAt Go.RowKit Go.Joins Go.Deep Go.Sort

theorem act_cells15 : Try.prog.cellsOf 30 = 9 := by kernel_rfl
def AyBd (x : Ay) (M : Nat) : Prop := x.m.v.val.length ≤ M
set_option maxRecDepth 100000 in
theorem act_trod15 {H : Type} {enc : TypeId × Value → H} {w : World} {base : Nat} {sp : Nat → Bool} (fuel : Nat) (cs : List Value) (x : DataW H × List MemPlace) (hl : cs.length = 9) (hf : DataW.trod enc Try.prog w base sp true fuel 30 cs = some x) :
    ∃ a : Ay, cs = a.cs ∧ AyIn w a ∧ (∀ M, (∀ n ∈ x.1.weights Try.prog 30, n ≤ M) → AyBd a M) := by
  match cs, hl with
  | [c0, c1, c2, c3, c4, c5, c6, c7, c8], _ =>
    obtain ⟨xs, n, _, hx, _, hlen, hg⟩ := DataW.trod_struct Try.underlying30 hf
    have hlen' : xs.length = 3 := hlen
    have g0 := hg 0 _ rfl
    have g1 := hg 1 _ rfl
    have g2 := hg 2 _ rfl
    rw [List.getElem?_eq_getElem (by omega)] at g0 g1 g2
    have k0 : DataW.trod enc Try.prog w base sp true n 3 [c0] = some xs[0] := g0
    have k1 : DataW.trod enc Try.prog w base sp true n 28 [c1, c2, c3, c4, c5, c6] = some xs[1] := g1
    have k2 : DataW.trod enc Try.prog w base sp true n 25 [c7, c8] = some xs[2] := g2
    obtain ⟨a0, e0, _, w0⟩ := DataW.trod_int Try.underlying3 k0
    obtain ⟨m, e1, hm, hw⟩ := open_ver_trod rfl k1
    obtain ⟨ys, n2, _, hy, _, hlen2, hg2⟩ := DataW.trod_struct Try.underlying25 k2
    have hlen2' : ys.length = 2 := hlen2
    have j0 := hg2 0 _ rfl
    have j1 := hg2 1 _ rfl
    rw [List.getElem?_eq_getElem (by omega)] at j0 j1
    have i0 : DataW.trod enc Try.prog w base sp true n2 3 [c7] = some ys[0] := j0
    have i1 : DataW.trod enc Try.prog w base sp true n2 3 [c8] = some ys[1] := j1
    obtain ⟨a1, e2, _, w1⟩ := DataW.trod_int Try.underlying3 i0
    obtain ⟨a2, e3, _, w2⟩ := DataW.trod_int Try.underlying3 i1
    simp only [Mv.cs, List.cons.injEq, and_true] at e0 e1 e2 e3
    obtain ⟨f1, f2, f3, f4, f5, f6⟩ := e1
    subst e0 f1 f2 f3 f4 f5 f6 e2 e3
    refine ⟨⟨a0, m, a1, a2⟩, rfl, ⟨hm, w1⟩, fun M hM => hw M (fun q hq => hM q ?_)⟩
    rw [hx]
    exact weights_field (i := 1) Try.underlying30 rfl (by simp only [List.getElem?_map]; rw [List.getElem?_eq_getElem (by omega)]; rfl) q hq
set_option maxRecDepth 100000 in
theorem chainPlays_lifted (os : Os) (started : os.Started) (H : Type) (enc : TypeId × Value → H) :
    ReturnsInHanded {} Try.checked os 3 .any (Rows.chainPlaysSpec.pre6 enc Try.prog Try.f3 Rows.chainPlaysRow.domain false) (Rows.chainPlaysSpec.post enc Try.prog Try.f3 false true false false) := by
  refine returnsInHanded_of_change_sized (C := Try.checked) law_own started (by kernel_rfl) Try.func3
    (ChangeSpec.witness6 (enc := enc) (C := Try.checked) false ⟨#[], #[.slice none 0 0, .slice none 0 0], []⟩ 8 (by kernel_rfl) (by kernel_rfl) (by kernel_rfl) (by kernel_rfl)) ?_
  intro W base args ds gs before hval0 hW hcnd hsz0 _
  have hval : ∀ (j : Nat) t v, Try.f3.params[j]? = some t → args[j]? = some v → Value.okWide Try.prog W .any base t v := hval0
  have hsz : (DataW.weightsEach Try.prog (Try.f3.params.toList ++ Rows.chainPlaysSpec.plain.varTypes Try.prog) (ds ++ gs)).all (· ≤ reachBytes) = true := hsz0
  have hW' := hW
  obtain ⟨p, q, hA0, hV, rfl, hfz, hnd⟩ := hW
  have hA : DataW.TrodAll enc Try.prog W 0 (fun _ => true) true Try.f3.params.toList args.toList ds p := hA0
  rw [Try.params3] at hA hval hsz
  have hsame : (Rows.chainPlaysSpec.fn H (ds ++ gs)).results = [.lit (.bool true)] ∧ (Rows.chainPlaysSpec.fn H (ds ++ gs)).args = ds ∧ (Rows.chainPlaysSpec.fn H (ds ++ gs)).vars = [] → ∀ W', Below W.heap.size W W' → Rows.chainPlaysSpec.post enc Try.prog Try.f3 false true false false W args (.bool true) W' :=
    fun h W' hb => law_post (tb := 4) hW' law_laid (by kernel_rfl) rfl Try.underlying4 h.1 h.2.1 rfl h.2.2 hb
  obtain ⟨v0, vs0, d0, ds0, p0, q0, hargs, rfl, rfl, h0, r0⟩ := trodAll_cons hA
  obtain ⟨v1, vs1, d1, ds1, p1, q1, rfl, rfl, rfl, h1, r1⟩ := trodAll_cons r0
  obtain ⟨rfl, rfl, rfl⟩ := trodAll_nil r1
  obtain rfl : args = #[v0, v1] := by cases args; simp_all
  obtain ⟨rfl, rfl⟩ := trodVars_none hV
  have hpost := hsame ⟨rfl, rfl, rfl⟩
  clear hsame hA0 hval0 hsz0
  obtain ⟨F, A, c, rfl, f1, f2, hrow, hin, _, hz⟩ := open_versions (hval 0 22 v0 rfl rfl) h0
  have hk := hz reachBytes (sized_each (j := 0) hsz rfl rfl)
  obtain ⟨S, LA, lc, rfl, s1, s2, s3, s4, s5, s6⟩ := open_rows Ay.cs 9 (by omega) Ay.len Try.underlying23 act_cells15 (AyIn W) AyBd ⟨0, ⟨⟨0, 0, 0, [], false, 0⟩, none, 0⟩, 0, 0⟩ act_trod15 (hval 1 23 v1 rfl rfl) h1
  have hk2 := s6 reachBytes (sized_each (j := 1) hsz rfl rfl)
  unfold reachBytes at hk hk2
  exact (law_plays15 A F c LA lc S W hrow (fun m hm => (hin m hm).at_) (fun m hm => by have := hk m hm; omega) (by omega) s3 s4 (fun x hx => by have := hk2 x hx; unfold AyBd at this; omega)).mono fun e W' ⟨he, hb⟩ => ⟨_, he, hpost W' hb⟩
theorem chainPlays_holds : Rows.ChainPlaysSaid :=
  OpenClaim.holds_of_wide 3 Try.f3 rfl rfl rfl rfl rfl rfl rfl ⟨rfl, rfl, rfl, rfl, rfl⟩ rfl rfl rfl rfl rfl (by kernel_rfl) Try.func3 (by kernel_rfl)
    (of_decide_eq_true (by kernel_rfl)) (by unfold Func.isWrapper; first | (rw [if_pos (by decide +kernel)]; kernel_rfl) | (rw [if_neg (by decide +kernel)]; exact ⟨rfl, rfl⟩))
    (fun os started H enc _ => chainPlays_lifted os started H enc)
end Go.Proofs.Ytfjnjababehmmaa

