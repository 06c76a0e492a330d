/- Stage 15: the law's heavy and versions. -/
import Derived.Test.YtfjnjababehmmaaChMath2
import Derived.Test.YtfjnjababehmmaaArgVers
import Derived.Test.YtfjnjababehmmaaChFind
set_option linter.unusedSimpArgs false
set_option linter.unusedVariables false
namespace Go.Proofs.Ytfjnjababehmmaa
open Go.RowKit Go.Sort

theorem RowA.ver {w : World} {B O : Nat} {L : List Mv} (hcell : ∀ j u, (rowV L)[j]? = some u → w.cell? ⟨B, O + j, none⟩ = some u) {k : Nat} {x : Mv} (hx : L[k]? = some x) :
    w.cell? ⟨B, O + k * 6, none⟩ = some (.int .i64 x.v.ml) ∧ w.cell? ⟨B, O + k * 6 + 1, none⟩ = some (.int .i64 x.v.ct) ∧ w.cell? ⟨B, O + k * 6 + 2, none⟩ = some (.int .i64 x.v.vo) ∧ w.cell? ⟨B, O + k * 6 + 3, none⟩ = some (.slice x.A x.v.val.length x.c) ∧ w.cell? ⟨B, O + k * 6 + 4, none⟩ = some (.bool x.v.gone) ∧ w.cell? ⟨B, O + k * 6 + 5, none⟩ = some (.int .i64 x.v.tt) :=
  ⟨hcell _ _ (rowV_at hx 0 (by omega)), by rw [Nat.add_assoc]; exact hcell _ _ (rowV_at hx 1 (by omega)), by rw [Nat.add_assoc]; exact hcell _ _ (rowV_at hx 2 (by omega)), by rw [Nat.add_assoc]; exact hcell _ _ (rowV_at hx 3 (by omega)), by rw [Nat.add_assoc]; exact hcell _ _ (rowV_at hx 4 (by omega)), by rw [Nat.add_assoc]; exact hcell _ _ (rowV_at hx 5 (by omega))⟩
set_option maxRecDepth 100000 in
set_option maxHeartbeats 4000000 in
theorem lheavy (A : Option Addr) (L : List Mv) (c : Nat) (w : World) (ha : RowA w A L) (hs : ∀ m ∈ L, m.v.val.length ≤ 281474976710656) (hl : L.length ≤ maxLen) :
    Calls Try.prog 10 #[.slice A L.length c] w fun e w' => (∃ b, e = .returned (.bool b) ∧ (b = false → L.length ≤ 300)) ∧ w' = w := by
  have HA := Lib.hid ha
  have HS := Lib.hid hs
  have hni : (L.length : Int) ≤ 9223372036854775807 := by unfold maxLen at hl; omega
  clear ha hs hl
  go_enter Try.func10, Try.ntmps10
  go_wp2
  go_loopw [3, 4] (fun u i wr => ∃ k m : Nat, k ≤ L.length ∧ i = .int .i64 k ∧ u = .int .i64 m ∧ 30 * k ≤ m ∧ m ≤ 8000 ∧ wr = w) (fun _ i _ => L.length - (intOf i).toNat)
  case atStart => exact ⟨0, 0, Nat.zero_le _, rfl, rfl, by omega, by omega, rfl⟩
  case round =>
    obtain ⟨k, m, hk, rfl, rfl, h20, hm, rfl⟩ := hrel
    by_cases hlt : k < L.length
    · have lk : (k : Int) < (L.length : Int) := by omega
      obtain ⟨B, O, rfl, hBl, hcell⟩ := HA.out (by omega)
      have hx : L[k]? = some L[k] := List.getElem?_eq_getElem hlt
      have hsz := HS.out L[k] (List.getElem_mem hlt)
      generalize L[k] = x at *
      obtain ⟨_, _, _, a3, _, _⟩ := RowA.ver hcell hx
      generalize x.v.val.length = vn at *
      have w1 : IntKind.i64.wrap ((m : Int) + 30) = (m : Int) + 30 := IntWalk.i64_in _ (by omega)
      have w2 : IntKind.i64.wrap ((m : Int) + 30 + (vn : Int)) = (m : Int) + 30 + (vn : Int) := IntWalk.i64_in _ (by omega)
      clear hx hlt hcell
      by_cases hh : 8000 < m + 30 + vn
      · have t1 : decide ((8000 : Int) < (m : Int) + 30 + (vn : Int)) = true := by simp; omega
        go_wp2
        go_ret
        exact ⟨⟨true, rfl, fun h => by cases h⟩, by first | rfl | trivial⟩
      · have t1 : decide ((8000 : Int) < (m : Int) + 30 + (vn : Int)) = false := by simp; omega
        go_wp2
        go_roundw
        case rel => exact ⟨k + 1, m + 30 + vn, by omega, by go_num, by go_num, by omega, by omega, by first | rfl | trivial⟩
        case measure => simp [intOf]; omega
    · obtain rfl : k = L.length := by omega
      go_wp2
      go_ret
      exact ⟨⟨false, rfl, fun _ => by omega⟩, by first | rfl | trivial⟩
set_option maxRecDepth 100000 in
set_option maxHeartbeats 4000000 in
theorem lversions (A A' : Option Addr) (L L' : List Mv) (c c' : Nat) (w : World) (ha : RowA w A L) (ha' : RowA w A' L') (hm : ∀ m ∈ L, m.At (fun _ => True) w) (hm' : ∀ m ∈ L', m.At (fun _ => True) w) (hl : L.length ≤ 1000000) (hl' : L'.length ≤ 1000000) :
    Calls Try.prog 29 #[.slice A L.length c, .slice A' L'.length c'] w fun e w' => (∃ b, e = .returned (.bool b) ∧ (b = true ↔ L.map Mv.v = L'.map Mv.v)) ∧ Below w.heap.size w w' := by
  have HB0 : Hid (Below w.heap.size w w) := Lib.hid (Below.refl _ _)
  by_cases hne : L.length = L'.length
  · have HA := Lib.hid ha
    have HA' := Lib.hid ha'
    have HM := Lib.hid hm
    have HM' := Lib.hid hm'
    have HL : Hid (L.length = L'.length) := hne
    have hln : (L.length : Int) ≤ 1000000 := by omega
    rw [← hne]
    clear ha ha' hm hm' hl hl' hne
    go_enter Try.func29, Try.ntmps29
    go_wp2
    go_loopw [5] (fun i wr => ∃ k : Nat, k ≤ L.length ∧ i = .int .i64 k ∧ (L.map Mv.v).take k = (L'.map Mv.v).take k ∧ Below w.heap.size w wr) (fun i _ => L.length - (intOf i).toNat)
    case atStart => exact ⟨0, Nat.zero_le _, rfl, rfl, HB0.out⟩
    case round =>
      obtain ⟨k, hk, rfl, htk, hB⟩ := hrel
      by_cases hlt : k < L.length
      · have lk : (k : Int) < (L.length : Int) := by omega
        have hlt' : k < L'.length := by rw [← HL.out]; exact hlt
        obtain ⟨B, O, rfl, hBl, hcell⟩ := HA.out (by omega)
        obtain ⟨B', O', rfl, hBl', hcell'⟩ := HA'.out (by omega)
        have hx : L[k]? = some L[k] := List.getElem?_eq_getElem hlt
        have hx' : L'[k]? = some L'[k] := List.getElem?_eq_getElem hlt'
        have hxa := ((HM.out L[k] (List.getElem_mem hlt)).b.below (hB.mono (Nat.le_refl _) |> fun h => h))
        have hn1 := (HM.out L[k] (List.getElem_mem hlt)).n
        have hy1 := (HM.out L[k] (List.getElem_mem hlt)).y
        have hxa' := ((HM'.out L'[k] (List.getElem_mem hlt')).b.below (hB.mono (Nat.le_refl _) |> fun h => h))
        have hn1' := (HM'.out L'[k] (List.getElem_mem hlt')).n
        have hy1' := (HM'.out L'[k] (List.getElem_mem hlt')).y
        have HTK : Hid (((L.map Mv.v).take (k + 1) = (L'.map Mv.v).take (k + 1)) ↔ L[k].v = L'[k].v) := Lib.hid (by
          have e1 : k < (L.map Mv.v).length := by simpa using hlt
          have e2 : k < (L'.map Mv.v).length := by simpa using hlt'
          rw [List.take_succ_eq_append_getElem e1, List.take_succ_eq_append_getElem e2, htk]
          simp)
        have HALL : Hid (L.map Mv.v = L'.map Mv.v → L[k].v = L'[k].v) := Lib.hid (fun h => by
          have := congrArg (fun l => l[k]?) h
          simpa [hx, hx'] using this)
        generalize L[k] = x at *
        generalize L'[k] = x' at *
        obtain ⟨a0, a1, a2, a3, a4, a5⟩ := RowA.ver hcell hx
        obtain ⟨b0, b1, b2, b3, b4, b5⟩ := RowA.ver hcell' hx'
        have ga : ∀ o, wr.cell? ⟨B, o, none⟩ = w.cell? ⟨B, o, none⟩ := fun o => hB.cell (p := ⟨B, o, none⟩) hBl
        have gb : ∀ o, wr.cell? ⟨B', o, none⟩ = w.cell? ⟨B', o, none⟩ := fun o => hB.cell (p := ⟨B', o, none⟩) hBl'
        rw [← ga] at a0 a1 a2 a3 a4 a5
        rw [← gb] at b0 b1 b2 b3 b4 b5
        obtain ⟨⟨ml, ct, vo, p, g, tt⟩, A, cc⟩ := x
        obtain ⟨⟨ml', ct', vo', p', g', tt'⟩, A', cc'⟩ := x'
        have HB := Lib.hid hB
        have hcon := fun W (hb : Below wr.heap.size wr W) => ref_sameV ml ct vo p g tt A cc ml' ct' vo' p' g' tt' A' cc' W (hxa.below hb) hy1 hn1 (hxa'.below hb) hy1' hn1'
        have hif := sameVB_iff ⟨ml, ct, vo, p, g, tt⟩ ⟨ml', ct', vo', p', g', tt'⟩
        have hif' : sameVB ml ct vo p g tt ml' ct' vo' p' g' tt' = true ↔ (⟨ml, ct, vo, p, g, tt⟩ : Vs) = ⟨ml', ct', vo', p', g', tt'⟩ := hif
        have HIF := Lib.hid hif'
        clear hif hif'
        generalize sameVB ml ct vo p g tt ml' ct' vo' p' g' tt' = sb at *
        have AC := Lib.hid fun (d' : Nat) (os : Array Obj) => Calls.regrown_of (hcon (grow (redrawn wr d') os) (below_regrown wr d' os))
        have ka0 := fun d os => cell_regrown a0 d os
        have ka1 := fun d os => cell_regrown a1 d os
        have ka2 := fun d os => cell_regrown a2 d os
        have ka3 := fun d os => cell_regrown a3 d os
        have ka4 := fun d os => cell_regrown a4 d os
        have ka5 := fun d os => cell_regrown a5 d os
        have kb0 := fun d os => cell_regrown b0 d os
        have kb1 := fun d os => cell_regrown b1 d os
        have kb2 := fun d os => cell_regrown b2 d os
        have kb3 := fun d os => cell_regrown b3 d os
        have kb4 := fun d os => cell_regrown b4 d os
        have kb5 := fun d os => cell_regrown b5 d os
        clear a0 a1 a2 a3 a4 a5 b0 b1 b2 b3 b4 b5 ga gb hcell hcell' hx hx' hxa hxa' hn1 hn1' hy1 hy1' hB hcon htk hlt hlt' HA HA' HM HM'
        cases sb with
        | false =>
          go_wp2_with fail
          refine wp_region_quiet_below (by kernel_rfl) (by kernel_rfl) ?_
          repeat (go_big_quiet_step ((go_at_call 25; exact AC.out _ _)))
          refine wpQuiet_nil ?_
          intro _ hw'
          obtain ⟨⟨dq, osq⟩, hw''⟩ := hw'
          subst hw''
          have HBF := Lib.hid (HB.out.trans ((below_regrown wr dq osq).mono HB.out.size))
          go_wp2
          go_ret
          exact ⟨⟨false, rfl, by constructor; (· intro h; cases h); (· intro h; exact HIF.out.2 (HALL.out h))⟩, HBF.out⟩
        | true =>
          go_wp2_with fail
          refine wp_region_quiet_below (by kernel_rfl) (by kernel_rfl) ?_
          repeat (go_big_quiet_step ((go_at_call 25; exact AC.out _ _)))
          refine wpQuiet_nil ?_
          intro _ hw'
          obtain ⟨⟨dq, osq⟩, hw''⟩ := hw'
          subst hw''
          have HBF := Lib.hid (HB.out.trans ((below_regrown wr dq osq).mono HB.out.size))
          have HT2 := Lib.hid (HTK.out.2 (HIF.out.1 (by first | rfl | trivial)))
          clear HTK HALL HIF AC
          go_wp2
          go_roundw
          case rel => exact ⟨k + 1, by omega, by go_num, HT2.out, HBF.out⟩
          case measure => simp [intOf]; omega
      · obtain rfl : k = L.length := by omega
        have HB := Lib.hid hB
        have HT : Hid (L.map Mv.v = L'.map Mv.v) := Lib.hid (by
          have e1 : (L.map Mv.v).take L.length = L.map Mv.v := List.take_of_length_le (by simp)
          have e2 : (L'.map Mv.v).take L.length = L'.map Mv.v := List.take_of_length_le (by simp [HL.out])
          rw [← e1, htk, e2])
        clear hB htk hlt HA HA' HM HM'
        go_wp2
        go_ret
        exact ⟨⟨true, rfl, by simp [HT.out]⟩, HB.out⟩
  · have hn' : ((L.length : Int) != (L'.length : Int)) = true := by simp; omega
    have hn2 : ¬ ((L.length : Int) = (L'.length : Int)) := by omega
    have HN : Hid (¬ L.map Mv.v = L'.map Mv.v) := Lib.hid (fun e => hne (by simpa using congrArg List.length e))
    clear ha ha' hm hm' hne
    go_enter Try.func29, Try.ntmps29
    go_wp2
    go_ret
    exact ⟨⟨false, rfl, by simp [HN.out]⟩, HB0.out⟩
end Go.Proofs.Ytfjnjababehmmaa
