/- A chain: Put in one, Of. -/
import Derived.Test.YtfjnjababehmmaaChMath
import Derived.Test.YtfjnjababehmmaaChAll
import Derived.Test.YtfjnjababehmmaaChPut2
import Derived.Test.YtfjnjababehmmaaArgVers
set_option linter.unusedSimpArgs false
set_option linter.unusedVariables false
namespace Go.Proofs.Ytfjnjababehmmaa
open Go.RowKit Go.Sort

/-- What Put leaves: its answer by putE, the versions by putL. -/
def PutAns (P : Nat → Prop) (b : Nat) (v : Value) (L : List Mv) (m : Mv) (w w' : World) (e : Ending) : Prop :=
  (putE (L.map Mv.v) m.v ≠ 0 ∧ e = .returned (.int .i64 (putE (L.map Mv.v) m.v)) ∧ Below w.heap.size w w') ∨
  (putE (L.map Mv.v) m.v = 0 ∧ e = .returned (.int .i64 0) ∧ ∃ v' L', Ch (fun i => P i ∨ (w.heap.size ≤ i ∧ i < w'.heap.size)) w' b v' L' ∧ L'.map Mv.v = putL (L.map Mv.v) m.v ∧ But (FootC b v) w w')
theorem ch_put (P : Nat → Prop) (b : Nat) (v : Value) (L : List Mv) (m : Mv) (w : World) (h : Ch P w b v L) (hr : Rise (L.map Mv.v)) (hl : L.length ≤ 1000000) (hm : m.At (fun _ => True) w) :
    Calls Try.prog 15 #[.pointer (some ⟨b, 0, none⟩), m.val] w fun e w' => PutAns P b v L m w w' e := by
  cases ho : m.v.ok with
  | false =>
    have he : putE (L.map Mv.v) m.v = 1 := by unfold putE; simp [ho]
    refine (ch_put_no P b v L m w ho).mono ?_
    rintro e w' ⟨rfl, hb⟩
    exact .inl ⟨by omega, by rw [he], hb⟩
  | true =>
    have hs := stand_v hr m.v
    have ha := has_v (L := L) m.v
    cases hh : hasAt (L.map Mv.v) m.v with
    | true =>
      rw [hh] at ha
      have he : putE (L.map Mv.v) m.v = 8 := by unfold putE; simp [ho, hh]
      refine (ch_put_has P b v L m _ w h hl ho hs ha).mono ?_
      rintro e w' ⟨rfl, hb⟩
      exact .inl ⟨by omega, by rw [he], hb⟩
    | false =>
      rw [hh] at ha
      have he : putE (L.map Mv.v) m.v = 0 := by unfold putE; simp [ho, hh]
      have hvl : m.v.val.length ≤ 100000 := by
        have : okV m.v.ml m.v.ct m.v.vo m.v.val.length m.v.gone m.v.tt = true := ho
        simp [okV] at this
        omega
      refine (ch_put_ok P b v L m _ w h hl ho hs ha hm.b hm.n hm.y hvl).mono ?_
      rintro e w' ⟨rfl, v', A, c, hc, hb⟩
      refine .inr ⟨he, rfl, v', _, hc, ?_, hb⟩
      simp [putL, List.map_take, List.map_drop]
theorem ofM_cons_ok {acc t : List Vs} {v : Vs} (h : putE acc v = 0) : ofM acc (v :: t) = ofM (putL acc v) t := by rw [ofM, if_pos h]
theorem ofM_cons_no {acc t : List Vs} {v : Vs} (h : putE acc v ≠ 0) : ofM acc (v :: t) = (putE acc v, []) := by rw [ofM, if_neg h]
def OfAns (l : List Vs) (w w' : World) (e : Ending) : Prop :=
  ((ofM [] l).1 ≠ 0 ∧ e = .returned (.tuple #[.pointer none, .int .i64 (ofM [] l).1]) ∧ Below w.heap.size w w') ∨
  ((ofM [] l).1 = 0 ∧ Rise (ofM [] l).2 ∧ ∃ b v L, e = .returned (.tuple #[.pointer (some ⟨b, 0, none⟩), .int .i64 0]) ∧ Ch (fun i => w.heap.size ≤ i) w' b v L ∧ L.map Mv.v = (ofM [] l).2 ∧ L.length ≤ l.length ∧ Below w.heap.size w w')
set_option maxRecDepth 100000 in
set_option maxHeartbeats 8000000 in
theorem ch_of (A : Option Addr) (L : List Mv) (c : Nat) (w : World) (ha : RowA w A L) (hl : L.length ≤ 100000) (hm : ∀ m ∈ L, m.At (fun _ => True) w) :
    Calls Try.prog 11 #[.slice A L.length c] w fun e w' => OfAns (L.map Mv.v) w w' e := by
  have HA := Lib.hid ha
  have HM := Lib.hid hm
  have hln : (L.length : Int) ≤ 100000 := by omega
  have HB0 : Hid (Below w.heap.size w (w.alloc (.cells #[.slice none 0 0] 65))) := Lib.hid (by (repeat' (first | (with_reducible exact Below.refl _ _) | (with_reducible assumption) | (with_reducible refine Below.trans ?_ (Below.mono (by with_reducible assumption) ?_)) | (with_reducible refine Below.alloc ?_ ?_ _) | (with_reducible refine Below.setCell ?_ ?_ _) | (with_reducible refine below_drewN ?_ _) | (with_reducible refine Below.drew ?_) | go_size)))
  have HC0 : Hid (Ch (fun i => w.heap.size ≤ i) (w.alloc (.cells #[.slice none 0 0] 65)) w.heap.size (.slice none 0 0) []) := Lib.hid ⟨by simp, by simp, by simp, World.ownsRow_nil _ _ _ _, by simp [Value.ownBlock], Nat.le_refl _, fun i hi => by simp [Value.ownBlock] at hi, fun m hm => by cases hm⟩
  clear ha hm
  go_enter Try.func11, Try.ntmps11
  go_wp2
  go_loopw [12] (fun i wr => ∃ (k : Nat) (v : Value) (L' : List Mv), k ≤ L.length ∧ i = .int .i64 k ∧ Ch (fun i => w.heap.size ≤ i) wr w.heap.size v L' ∧ Rise (L'.map Mv.v) ∧ L'.length ≤ k ∧ ofM [] (L.map Mv.v) = ofM (L'.map Mv.v) ((L.map Mv.v).drop k) ∧ Below w.heap.size w wr) (fun i _ => L.length - (intOf i).toNat)
  case atStart => exact ⟨0, _, [], Nat.zero_le _, rfl, HC0.out, rise_nil, Nat.le_refl _, rfl, HB0.out⟩
  case round =>
    obtain ⟨k, v, L', hk, rfl, hch, hri, hlen, heq, hB⟩ := hrel
    by_cases hlt : k < L.length
    · have lk : (k : Int) < (L.length : Int) := by omega
      obtain ⟨B, O, rfl, hBl, hcell⟩ := HA.out (by omega)
      have hx : L[k]? = some L[k] := List.getElem?_eq_getElem hlt
      have hdk : (L.map Mv.v).drop k = L[k].v :: (L.map Mv.v).drop (k + 1) := by
        rw [List.drop_eq_getElem_cons (by simpa using hlt)]
        simp
      rw [hdk] at heq
      generalize L[k] = x at *
      have hxm := List.mem_of_getElem? hx
      have q0 : wr.cell? ⟨B, O + k * 6, none⟩ = some (.int .i64 x.v.ml) := (hB.cell (p := ⟨B, O + k * 6, none⟩) hBl).trans (hcell _ _ (rowV_at hx 0 (by omega)))
      have q1 : wr.cell? ⟨B, O + k * 6 + 1, none⟩ = some (.int .i64 x.v.ct) := (hB.cell (p := ⟨B, O + k * 6 + 1, none⟩) hBl).trans (by rw [Nat.add_assoc]; exact hcell _ _ (rowV_at hx 1 (by omega)))
      have q2 : wr.cell? ⟨B, O + k * 6 + 2, none⟩ = some (.int .i64 x.v.vo) := (hB.cell (p := ⟨B, O + k * 6 + 2, none⟩) hBl).trans (by rw [Nat.add_assoc]; exact hcell _ _ (rowV_at hx 2 (by omega)))
      have q3 : wr.cell? ⟨B, O + k * 6 + 3, none⟩ = some (.slice x.A x.v.val.length x.c) := (hB.cell (p := ⟨B, O + k * 6 + 3, none⟩) hBl).trans (by rw [Nat.add_assoc]; exact hcell _ _ (rowV_at hx 3 (by omega)))
      have q4 : wr.cell? ⟨B, O + k * 6 + 4, none⟩ = some (.bool x.v.gone) := (hB.cell (p := ⟨B, O + k * 6 + 4, none⟩) hBl).trans (by rw [Nat.add_assoc]; exact hcell _ _ (rowV_at hx 4 (by omega)))
      have q5 : wr.cell? ⟨B, O + k * 6 + 5, none⟩ = some (.int .i64 x.v.tt) := (hB.cell (p := ⟨B, O + k * 6 + 5, none⟩) hBl).trans (by rw [Nat.add_assoc]; exact hcell _ _ (rowV_at hx 5 (by omega)))
      have hat := (((HM.out x hxm).mono (Q' := fun i => i < w.heap.size) (fun i hi _ => hi)).but (S := fun i => w.heap.size ≤ i) ⟨hB.os, hB.tape, hB.output, hB.size, fun i hi hn => hB.block i (by omega)⟩ (fun i hi hq => by omega)).mono (Q' := fun _ => True) (fun _ _ _ => trivial)
      obtain ⟨⟨ml, ct, vo, val, gn, tt⟩, A, cc⟩ := x
      have hba : Below wr.heap.size wr (wr.alloc (verO ml ct vo A val.length cc gn tt)) := (Below.refl _ _).alloc (Nat.le_refl _) _
      have HB1 := Lib.hid (hB.trans (hba.mono hB.size))
      have HPUT := Lib.hid (ch_put (fun i => w.heap.size ≤ i) w.heap.size v L' ⟨⟨ml, ct, vo, val, gn, tt⟩, A, cc⟩ (wr.alloc (verO ml ct vo A val.length cc gn tt)) (hch.below hba) hri (by omega) (hat.below hba))
      have HRI := Lib.hid hri
      have HLEN := Lib.hid hlen
      have HEQ := Lib.hid heq
      have hzr := hB.size
      have hvb := Lib.hid (fun i (hi : v.ownBlock = some i) => hch.pv i hi)
      clear hch hri hlen heq hat hba hB hx hxm hdk hlt hcell
      go_wp2_with fail
      refine HPUT.out.mono ?_
      rintro e w2 (⟨hne, rfl, hb2⟩ | ⟨he0, rfl, v', L2, hc2, hm2, hbt⟩)
      · have HBF := Lib.hid (HB1.out.trans (hb2.mono HB1.out.size))
        have HE : Hid (ofM [] (L.map Mv.v) = (putE (L'.map Mv.v) ⟨ml, ct, vo, val, gn, tt⟩, [])) := Lib.hid (HEQ.out.trans (ofM_cons_no hne))
        generalize putE (L'.map Mv.v) ⟨ml, ct, vo, val, gn, tt⟩ = q at *
        have t0 : (q != 0) = true := by simpa using hne
        have HNE := Lib.hid hne
        clear hne hb2
        go_wp2
        go_ret2
        exact .inl ⟨by rw [HE.out]; exact HNE.out, by rw [HE.out]; rfl, HBF.out⟩
      · have hz2 := hbt.size
        have HBF : Hid (Below w.heap.size w w2) := Lib.hid (HB1.out.trans (hbt.below (fun i hi => by
          rcases hi with rfl | hi
          · exact Nat.le_refl _
          · exact hvb.out i hi) HB1.out.size))
        have HC2 := Lib.hid (hc2.mono (P' := fun i => w.heap.size ≤ i) (fun i _ hi => by
          rcases hi with q | q
          · exact q
          · have := HB1.out.size; omega))
        have HR2 := Lib.hid (show Rise (L2.map Mv.v) by rw [hm2]; exact rise_put HRI.out (putE_ok he0).2)
        have HL2 := Lib.hid (show L2.length ≤ k + 1 by
          have e1 : (L2.map Mv.v).length = (L'.map Mv.v).length + 1 := by rw [hm2, putL_len]
          simp at e1
          have := HLEN.out
          omega)
        have HE2 := Lib.hid (show ofM [] (L.map Mv.v) = ofM (L2.map Mv.v) ((L.map Mv.v).drop (k + 1)) by rw [hm2]; exact HEQ.out.trans (ofM_cons_ok he0))
        clear hc2 hm2 hbt he0 HEQ HRI HLEN HPUT
        go_wp2
        go_roundw
        case rel => exact ⟨k + 1, v', L2, by omega, by go_num, HC2.out, HR2.out, HL2.out, HE2.out, HBF.out⟩
        case measure => simp [intOf]; omega
    · obtain rfl : k = L.length := by omega
      have HC2 := Lib.hid hch
      have HR2 := Lib.hid hri
      have HB := Lib.hid hB
      have HE2 : Hid (ofM [] (L.map Mv.v) = (0, L'.map Mv.v)) := Lib.hid (by rw [heq, List.drop_of_length_le (by simp)]; rfl)
      have HLEN := Lib.hid hlen
      clear hch hri heq hB hlen hlt
      go_wp2
      go_ret2
      exact .inr ⟨by rw [HE2.out], by rw [HE2.out]; exact HR2.out, w.heap.size, v, L', rfl, HC2.out, by rw [HE2.out], by simpa using HLEN.out, HB.out⟩
end Go.Proofs.Ytfjnjababehmmaa
