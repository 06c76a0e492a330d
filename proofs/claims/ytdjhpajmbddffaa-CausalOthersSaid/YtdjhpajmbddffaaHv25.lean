/- Stage 25: the law's heavyAll, weakly (written by gen/hv25.py). -/
import Derived.Test.YtdjhpajmbddffaaArgEv25
set_option linter.unusedSimpArgs false
set_option linter.unusedVariables false
namespace Go.Proofs.Ytdjhpajmbddffaa
open Go.RowKit

set_option maxRecDepth 100000 in
set_option maxHeartbeats 16000000 in
theorem heavy25 (B O c : Nat) (L : List EvA) (w : World) (h : RowE w B O (L.map EvA.e)) (hl : L.length ≤ 9223372036854775807) (hE : ∀ a ∈ L, EvIn w a) :
    Calls Try.prog 6 #[.slice (some ⟨B, O, none⟩) L.length c] w fun e' w' => (∃ b, e' = .returned (.bool b) ∧ (b = false → L.length ≤ 150 ∧ ∀ a ∈ L, a.e.vl ≤ 8000)) ∧ Below w.heap.size w w' := by
  have HR := Lib.hid h
  have HEE := Lib.hid hE
  clear h hE
  go_enter Try.func6, Try.ntmps6
  go_wp2_with fail
  go_loopw [4, 3] (fun i n wr => ∃ (k : Nat) (x : Int), k ≤ L.length ∧ i = .int .i64 (k : Int) ∧ n = .int .i64 x ∧ (∀ j a, j < k → L[j]? = some a → a.e.vl ≤ 8000) ∧ Below w.heap.size w wr) (fun i _ _ => (L.length - (intOf i).toNat))
  case atStart => exact ⟨0, 0, by omega, by simp, rfl, fun j a hj => by omega, Below.refl _ _⟩
  case round =>
    obtain ⟨k, x, hk, rfl, rfl, hsm, hb⟩ := hrel
    have HB := Lib.hid hb
    have HSM := Lib.hid hsm
    clear hb hsm
    by_cases h1 : k < L.length
    · have t1 : decide ((k : Int) < (L.length : Int)) = true := by simpa using h1
      have hki : (k : Int) < (L.length : Int) := by omega
      have wk : IntKind.i64.wrap ((k : Int) + 1) = (k : Int) + 1 := IntWalk.i64_in _ (by omega)
      obtain ⟨a, ha⟩ : ∃ a, L[k]? = some a := ⟨_, List.getElem?_eq_getElem h1⟩
      have hin := HEE.out a (List.mem_of_getElem? ha)
      have hme : (L.map EvA.e)[k]? = some a.e := by rw [List.getElem?_map, ha]; rfl
      have hrg := Ev.range (HR.out.below HB.out) hme
      have hBw : B < wr.heap.size := (HR.out.below HB.out).1
      have x8 : wr.cell? ⟨B, O + k * 18 + 8, none⟩ = some (.string a.e.key) := hrg 8 _ rfl
      have x9 : wr.cell? ⟨B, O + k * 18 + 9, none⟩ = some (.string a.e.hi) := hrg 9 _ rfl
      have x10 : wr.cell? ⟨B, O + k * 18 + 10, none⟩ = some (.slice a.e.A a.e.vl a.e.vc) := hrg 10 _ rfl
      have x16 : wr.cell? ⟨B, O + k * 18 + 16, none⟩ = some (.slice a.e.B a.e.bl a.e.bc) := hrg 16 _ rfl
      have x17 : wr.cell? ⟨B, O + k * 18 + 17, none⟩ = some (.slice a.e.P a.e.pl a.e.pc) := hrg 17 _ rfl
      have HIN := Lib.hid hin
      have H1 := Lib.hid h1
      have HA := Lib.hid ha
      clear ha hin hme hrg h1 hk
      by_cases c1 : 8000 < a.e.key.size
      · as_aux_lemma =>
        have b1 : decide ((8000 : Int) < (a.e.key.size : Int)) = true := by simp; omega
        clear c1
        go_wp2_with fail
        go_ret
        exact ⟨⟨true, rfl, fun h => by cases h⟩, HB.out⟩
      have b1 : decide ((8000 : Int) < (a.e.key.size : Int)) = false := by simp; omega
      by_cases c2 : 8000 < a.e.hi.size
      · as_aux_lemma =>
        have b2 : decide ((8000 : Int) < (a.e.hi.size : Int)) = true := by simp; omega
        clear c1 c2
        go_wp2_with fail
        go_ret
        exact ⟨⟨true, rfl, fun h => by cases h⟩, HB.out⟩
      have b2 : decide ((8000 : Int) < (a.e.hi.size : Int)) = false := by simp; omega
      by_cases c3 : 8000 < a.e.vl
      · as_aux_lemma =>
        have b3 : decide ((8000 : Int) < (a.e.vl : Int)) = true := by simp; omega
        clear c1 c2 c3
        go_wp2_with fail
        go_ret
        exact ⟨⟨true, rfl, fun h => by cases h⟩, HB.out⟩
      have b3 : decide ((8000 : Int) < (a.e.vl : Int)) = false := by simp; omega
      by_cases c4 : 8000 < a.e.bl
      · as_aux_lemma =>
        have b4 : decide ((8000 : Int) < (a.e.bl : Int)) = true := by simp; omega
        clear c1 c2 c3 c4
        go_wp2_with fail
        go_ret
        exact ⟨⟨true, rfl, fun h => by cases h⟩, HB.out⟩
      have b4 : decide ((8000 : Int) < (a.e.bl : Int)) = false := by simp; omega
      have HC3 := Lib.hid c3
      clear c1 c2 c3 c4
      as_aux_lemma =>
      go_upto_region 7 with fail
      refine wp_region_held_drew (S := fun w' => w'.cell? ⟨B, O + k * 18 + 8, none⟩ = some (.string a.e.key) ∧ w'.cell? ⟨B, O + k * 18 + 9, none⟩ = some (.string a.e.hi) ∧ w'.cell? ⟨B, O + k * 18 + 10, none⟩ = some (.slice a.e.A a.e.vl a.e.vc) ∧ w'.cell? ⟨B, O + k * 18 + 16, none⟩ = some (.slice a.e.B a.e.bl a.e.bc)) (by kernel_rfl) ?_ (fun hHeld => ?_)
      · exact ⟨x8, x9, x10, x16⟩
      have k1 : Below wr.heap.size wr wr.drew := (Below.refl _ _).drew
      obtain ⟨V1, hV1⟩ : ∃ V1, wr.drew = V1 := ⟨_, rfl⟩
      rw [hV1] at k1 hHeld ⊢
      clear hV1
      replace x17 := (k1.cell (p := ⟨B, O + k * 18 + 17, none⟩) hBw).trans x17
      replace hBw := Nat.lt_of_lt_of_le hBw k1.size
      have HB1 := Lib.hid (HB.out.trans (k1.mono HB.out.size))
      clear k1 x8 x9 x10 x16 b1 b2 b3 b4
      refine tk9 0 ?_
      refine tk9 1 ?_
      refine tk9 2 ?_
      refine tk9 3 ?_
      refine tk9 4 ?_
      refine tk9 5 ?_
      refine tk9 6 ?_
      refine tk9 7 ?_
      refine tk9 8 ?_
      refine tk9 9 ?_
      refine tk9 10 ?_
      refine tk9 11 ?_
      refine tk9 12 ?_
      refine tk9 13 ?_
      refine tk9 14 ?_
      refine tk9 15 ?_
      refine tk9 16 ?_
      refine tk9 17 ?_
      refine tk9 18 ?_
      refine tk9 19 ?_
      refine tk9 20 ?_
      refine tk9 21 ?_
      refine tk9 22 ?_
      refine tk9 23 ?_
      refine tk9 24 ?_
      refine tk9 25 ?_
      refine tk9 26 ?_
      refine tk9 27 ?_
      refine tk9 28 ?_
      refine tk9 29 ?_
      refine tk9 30 ?_
      refine tk9 31 ?_
      refine tk9 32 ?_
      refine tk9 33 ?_
      refine tk9 34 ?_
      refine wpAnyH_done (by kernel_rfl) ?_ _
      clear hHeld
      have HX17 := Lib.hid x17
      have HBW := Lib.hid hBw
      clear x17 hBw
      go_wp2_with fail
      go_loopw [5, 3] (fun j n wi => ∃ (m : Nat) (z : Int), m ≤ a.Ps.length ∧ j = .int .i64 (m : Int) ∧ n = .int .i64 z ∧ Below w.heap.size w wi ∧ Below V1.heap.size V1 wi) (fun j _ _ => a.Ps.length - (intOf j).toNat)
      case atStart => exact ⟨0, _, by omega, by simp, rfl, HB1.out, Below.refl _ _⟩
      case round =>
        obtain ⟨m, z, hm, rfl, rfl, hb2, hk2⟩ := hrel
        have y17 := (hk2.cell (p := ⟨B, O + k * 18 + 17, none⟩) HBW.out).trans HX17.out
        rw [HIN.out.pl] at y17
        have HB2 := Lib.hid hb2
        have HK2 := Lib.hid hk2
        have hBi := Nat.lt_of_lt_of_le HBW.out hk2.size
        clear hb2 hk2
        by_cases h2 : m < a.Ps.length
        · as_aux_lemma =>
          have hpm : a.Ps.length ≤ 9223372036854775807 := by have := HIN.out.pm; unfold maxLen at this; omega
          have t2 : decide ((m : Int) < (a.Ps.length : Int)) = true := by simpa using h2
          have hmi : (m : Int) < (a.Ps.length : Int) := by omega
          have wm : IntKind.i64.wrap ((m : Int) + 1) = (m : Int) + 1 := IntWalk.i64_in _ (by omega)
          obtain ⟨PB, PO, hP, hPB, hPc⟩ := (HIN.out.row.below HB2.out) (by omega)
          rw [hP] at y17
          obtain ⟨y, hy⟩ : ∃ y, a.Ps[m]? = some y := ⟨_, List.getElem?_eq_getElem h2⟩
          have p0 := hPc (m * 2 + 0) (.string y.key) (by rw [fm_at Pr.cs 2 Pr.len hy 0 (by omega)]; rfl)
          have p1 := hPc (m * 2 + 1) (.slice y.A y.p.length y.c) (by rw [fm_at Pr.cs 2 Pr.len hy 1 (by omega)]; rfl)
          rw [Nat.add_zero] at p0
          rw [← Nat.add_assoc] at p1
          have H2 := Lib.hid h2
          clear hPc hy h2 hm hP hpm
          go_upto_region 11 with fail
          refine wp_region_held_drew (S := fun w' => w'.cell? ⟨B, O + k * 18 + 17, none⟩ = some (.slice (some ⟨PB, PO, none⟩) a.Ps.length a.e.pc) ∧ w'.cell? ⟨PB, PO + m * 2, none⟩ = some (.string y.key) ∧ w'.cell? ⟨PB, PO + m * 2 + 1, none⟩ = some (.slice y.A y.p.length y.c)) (by kernel_rfl) ?_ (fun hHeld => ?_)
          · exact ⟨y17, p0, p1⟩
          have k3 : Below wr.heap.size wr wr.drew := (Below.refl _ _).drew
          obtain ⟨V3, hV3⟩ : ∃ V, wr.drew = V := ⟨_, rfl⟩
          rw [hV3] at k3 hHeld ⊢
          clear hV3
          have HB3 := Lib.hid (HB2.out.trans (k3.mono HB2.out.size))
          have HK3 := Lib.hid (HK2.out.trans (k3.mono HK2.out.size))
          clear k3 y17 p0 p1 hBi hPB
          refine tk9 0 ?_
          refine tk9 1 ?_
          refine tk9 2 ?_
          refine tk9 3 ?_
          refine tk9 4 ?_
          refine tk9 5 ?_
          refine tk9 6 ?_
          refine tk9 7 ?_
          refine tk9 8 ?_
          refine tk9 9 ?_
          refine tk9 10 ?_
          refine tk9 11 ?_
          refine tk9 12 ?_
          refine tk9 13 ?_
          refine tk9 14 ?_
          refine tk9 15 ?_
          refine tk9 16 ?_
          refine tk9 17 ?_
          refine tk9 18 ?_
          refine tk9 19 ?_
          refine tk9 20 ?_
          refine tk9 21 ?_
          refine tk9 22 ?_
          refine tk9 23 ?_
          refine tk9 24 ?_
          refine tk9 25 ?_
          refine tk9 26 ?_
          refine wpAnyH_done (by kernel_rfl) ?_ _
          clear hHeld
          obtain ⟨zb, hzb⟩ : ∃ b, decide ((8000 : Int) < IntKind.i64.wrap (IntKind.i64.wrap (IntKind.i64.wrap (z + 5) + (y.key.size : Int)) + (y.p.length : Int))) = b := ⟨_, rfl⟩
          cases zb
          · go_wp2_with fail
            go_roundw
            case rel => exact ⟨m + 1, _, by have := H2.out; omega, by simp, rfl, HB3.out, HK3.out⟩
            case measure => simp [intOf]; have := H2.out; omega
          · go_wp2_with fail
            go_ret
            exact ⟨⟨true, rfl, fun h => by cases h⟩, HB3.out⟩
        · as_aux_lemma =>
          obtain rfl : m = a.Ps.length := by omega
          have t2 : decide ((a.Ps.length : Int) < (a.Ps.length : Int)) = false := by simp
          have hsm2 : ∀ j b, j < k + 1 → L[j]? = some b → b.e.vl ≤ 8000 := fun j b hj hb => by
            rcases Nat.lt_or_ge j k with q | q
            · exact HSM.out j b q hb
            · obtain rfl : j = k := by omega
              rw [HA.out] at hb
              injection hb with hb
              rw [← hb]
              have := HC3.out
              omega
          have HS2 := Lib.hid hsm2
          clear hsm2 h2 hm hBi
          obtain ⟨zb, hzb⟩ : ∃ b, decide ((8000 : Int) < z) = b := ⟨_, rfl⟩
          cases zb
          · go_wp2_with fail
            go_roundw
            case rel => exact ⟨k + 1, z, by have := H1.out; omega, by simp, rfl, HS2.out, HB2.out⟩
            case measure => simp [intOf]; have := H1.out; omega
          · go_wp2_with fail
            go_ret
            exact ⟨⟨true, rfl, fun h => by cases h⟩, HB2.out⟩
    · as_aux_lemma =>
      have t1 : decide ((k : Int) < (L.length : Int)) = false := by simp; omega
      obtain rfl : k = L.length := by omega
      clear hk h1
      have hall : ∀ a ∈ L, a.e.vl ≤ 8000 := fun a ha => by
        obtain ⟨j, hj, rfl⟩ := List.getElem_of_mem ha
        exact HSM.out j _ hj (List.getElem?_eq_getElem hj)
      have HALL := Lib.hid hall
      clear hall
      go_wp2_with fail
      go_ret
      exact ⟨⟨_, rfl, fun h => ⟨by simp at h; omega, HALL.out⟩⟩, HB.out⟩
end Go.Proofs.Ytdjhpajmbddffaa
