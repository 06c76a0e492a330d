/- octet.Reader: Nums; NewReader. -/
import Derived.Test.YtdffldlcbihjmaaDoorRdRaw
set_option linter.unusedSimpArgs false
set_option linter.unusedVariables false
namespace Go.Proofs.YtdffldlcbihjmaaDoor
open Go.RowKit

variable {Q : Nat → Prop}
/-- k numbers, one behind the other. -/
def numsR : Nat → RSt → List Nat × RSt
  | 0, s => ([], s)
  | k + 1, s => ((numsR k s).1 ++ [(rNum (numsR k s).2).1], (rNum (numsR k s).2).2)
theorem numsR_len (k : Nat) (s : RSt) : (numsR k s).1.length = k := by
  induction k with
  | zero => rfl
  | succ k ih => simp [numsR, ih]
theorem numsR_left (k : Nat) (s : RSt) : rLeft (numsR k s).2 ≤ rLeft s := by
  induction k with
  | zero => exact Nat.le_refl _
  | succ k ih => exact Nat.le_trans (rNum_left _) ih
theorem numsR_old (k j : Nat) (s : RSt) (h : j < k) : (numsR (k + 1) s).1.getD j 0 = (numsR k s).1.getD j 0 := by
  show ((numsR k s).1 ++ [(rNum (numsR k s).2).1]).getD j 0 = _
  rw [List.getD_eq_getElem?_getD, List.getD_eq_getElem?_getD, List.getElem?_append_left (by rw [numsR_len]; exact h)]
theorem numsR_new (k : Nat) (s : RSt) : (numsR (k + 1) s).1.getD k 0 = (rNum (numsR k s).2).1 := by
  show ((numsR k s).1 ++ [(rNum (numsR k s).2).1]).getD k 0 = _
  rw [List.getD_eq_getElem?_getD, List.getElem?_append_right (by rw [numsR_len]; omega), numsR_len]
  simp
/-- What Nums leaves behind k places. -/
structure NumsRel (Q : Nat → Prop) (b : Nat) (ps : List (Nat × Nat)) (s : RSt) (w wr : World) (k : Nat) : Prop where
  rd : Rd Q wr b (numsR k s).2
  but : But (fun i => i = b ∨ ∃ p ∈ ps, p.1 = i) w wr
  got : ∀ (j : Nat) (q : j < ps.length), j < k → wr.cell? ⟨ps[j].1, ps[j].2, none⟩ = some (.int .i64 ((numsR k s).1.getD j 0 : Nat))
  old : ∀ B o, B < w.heap.size → B ≠ b → (∀ (j : Nat) (q : j < ps.length), j < k → ps[j] ≠ (B, o)) → wr.cell? ⟨B, o, none⟩ = w.cell? ⟨B, o, none⟩
  frz : ∀ B o, B < w.heap.size → B ≠ b → wr.frozen? ⟨B, o, none⟩ = w.frozen? ⟨B, o, none⟩
/-- A place that a number may be laid at. -/
structure Place (Q : Nat → Prop) (b g : Nat) (w : World) (p : Nat × Nat) : Prop where
  ng : p.1 ≠ g
  nb : p.1 ≠ b
  nq : ¬ Q p.1
  lt : p.1 < w.heap.size
  c : ∃ x, w.cell? ⟨p.1, p.2, none⟩ = some (.int .i64 x)
  f : w.frozen? ⟨p.1, p.2, none⟩ = false
theorem NumsRel.next {b g : Nat} {ps : List (Nat × Nat)} {s : RSt} {w wr w1 : World} {k : Nat} (h : NumsRel Q b ps s w wr k) (hp : RdPost Q b (rNum (numsR k s).2).2 wr w1) (hk : k < ps.length) (hpl : ∀ p ∈ ps, Place Q b g w p) (hnd : ∀ (i j : Nat) (hi : i < ps.length) (hj : j < ps.length), i < j → ps[i] ≠ ps[j]) :
    NumsRel Q b ps s w (w1.setCell ⟨ps[k].1, ps[k].2, none⟩ (.int .i64 ((rNum (numsR k s).2).1 : Nat))) (k + 1) := by
  have P := hpl ps[k] (List.getElem_mem hk)
  have hlt : ps[k].1 < wr.heap.size := Nat.lt_of_lt_of_le P.lt h.but.size
  have hne : ∀ j (q : j < ps.length), j < k → ps[j] ≠ ps[k] := fun j q hj => hnd j k q hk hj
  refine ⟨?_, ?_, fun j q hj => ?_, fun B o hB hb hno => ?_, fun B o hB hb => ?_⟩
  · exact hp.rd.but (S := fun i => i = ps[k].1) (But.of_only ((Only.refl ps[k].1 w1).setB (o := ps[k].2) _) rfl) (fun e => P.nb e.symm) (fun i e => e ▸ P.nq)
  · exact (h.but.trans (But.of_only (S := fun i => i = b) hp.only rfl) (fun i _ e => .inl e)).setCell (fun _ => .inr ⟨ps[k], List.getElem_mem hk, rfl⟩) _
  · rcases Nat.lt_or_ge j k with hjk | hjk
    · have Pj := hpl ps[j] (List.getElem_mem q)
      rw [World.cell?_setCell_other _ _ _ _ (fun e => hne j q hjk (by injection e with e1 e2; exact Prod.ext e1.symm e2.symm)), numsR_old k j s hjk, hp.only.cell _ _ (Nat.lt_of_lt_of_le Pj.lt h.but.size) Pj.nb]
      exact h.got j q hjk
    · obtain rfl : j = k := by omega
      obtain ⟨x, hx⟩ := P.c
      rw [numsR_new]
      have e1 := hp.only.cell ps[j].1 ps[j].2 hlt P.nb
      have e2 := h.old ps[j].1 ps[j].2 P.lt P.nb (fun j' q' hj' => hne j' q' hj')
      exact World.cell?_setCell_same _ _ _ (e1.trans (e2.trans hx))
  · rw [World.cell?_setCell_other _ _ _ _ (fun e => hno k hk (by omega) (by injection e with e1 e2; exact Prod.ext e1 e2)), hp.only.cell _ _ (Nat.lt_of_lt_of_le hB h.but.size) hb]
    exact h.old B o hB hb (fun j q hj => hno j q (by omega))
  · have e : (w1.setCell ⟨ps[k].1, ps[k].2, none⟩ (.int .i64 ((rNum (numsR k s).2).1 : Nat))).frozen? ⟨B, o, none⟩ = w1.frozen? ⟨B, o, none⟩ := by simp
    rw [e, hp.only.frozen _ _ (Nat.lt_of_lt_of_le hB h.but.size) hb]
    exact h.frz B o hB hb
set_option maxRecDepth 100000 in
set_option maxHeartbeats 4000000 in
theorem rd_nums (b g c : Nat) (ps : List (Nat × Nat)) (s : RSt) (w : World) (h : Rd Q w b s) (hl : rLeft s ≤ 1000000) (hgl : g < w.heap.size) (hgb : g ≠ b) (hgc : ∀ (j : Nat) (q : j < ps.length), w.cell? ⟨g, j, none⟩ = some (.pointer (some ⟨ps[j].1, ps[j].2, none⟩)))
    (hpl : ∀ p ∈ ps, Place Q b g w p) (hnd : ∀ (i j : Nat) (hi : i < ps.length) (hj : j < ps.length), i < j → ps[i] ≠ ps[j]) (hn : ps.length ≤ 10) :
    Calls Tryd.prog 60 #[.pointer (some ⟨b, 0, none⟩), .slice (some ⟨g, 0, none⟩) ps.length c] w fun e w' => e = .returned (.tuple #[]) ∧ NumsRel Q b ps s w w' ps.length := by
  have H0 : Hid (NumsRel Q b ps s w w 0) := Lib.hid ⟨h, But.refl _ _, fun j _ hj => absurd hj (by omega), fun _ _ _ _ _ => rfl, fun _ _ _ _ => rfl⟩
  have HC := Lib.hid hgc
  have HP := Lib.hid hpl
  have HN := Lib.hid hnd
  have HL := Lib.hid hl
  have hni : (ps.length : Int) ≤ 10 := by omega
  clear h hgc hpl hnd hl
  go_enter Tryd.func60, Tryd.ntmps60
  go_wp2
  go_loopw [9] (fun i wr => ∃ k : Nat, k ≤ ps.length ∧ i = .int .i64 k ∧ NumsRel Q b ps s w wr k) (fun i _ => ps.length - (intOf i).toNat)
  case atStart => exact ⟨0, Nat.zero_le _, rfl, H0.out⟩
  case round =>
    obtain ⟨k, hk, rfl, hR⟩ := hrel
    clear H0
    by_cases hlt : k < ps.length
    · have x0 : wr.cell? ⟨g, k, none⟩ = some (.pointer (some ⟨ps[k].1, ps[k].2, none⟩)) := by
        rw [hR.old g k hgl hgb (fun j q _ e => (HP.out _ (List.getElem_mem q)).ng (by rw [e]))]
        exact HC.out k hlt
      have lk : (k : Int) < (ps.length : Int) := by omega
      have P := HP.out ps[k] (List.getElem_mem hlt)
      have HNUM := Lib.hid (rd_num b (numsR k s).2 wr hR.rd (Nat.le_trans (numsR_left k s) HL.out))
      have HNX : Hid (∀ w1, RdPost Q b (rNum (numsR k s).2).2 wr w1 → NumsRel Q b ps s w (w1.setCell ⟨ps[k].1, ps[k].2, none⟩ (.int .i64 ((rNum (numsR k s).2).1 : Nat))) (k + 1) ∧ (∃ x, w1.cell? ⟨ps[k].1, ps[k].2, none⟩ = some (.int .i64 x)) ∧ w1.frozen? ⟨ps[k].1, ps[k].2, none⟩ = false) := Lib.hid (fun w1 hp => by
        have hltk : ps[k].1 < wr.heap.size := Nat.lt_of_lt_of_le P.lt hR.but.size
        refine ⟨hR.next hp hlt HP.out HN.out, ?_, ?_⟩
        · obtain ⟨x, hx⟩ := P.c
          have e1 := hp.only.cell ps[k].1 ps[k].2 hltk P.nb
          have e2 := hR.old ps[k].1 ps[k].2 P.lt P.nb (fun j' q' hj' => HN.out j' k q' hlt hj')
          exact ⟨x, e1.trans (e2.trans hx)⟩
        · have e1 := hp.only.frozen ps[k].1 ps[k].2 hltk P.nb
          have e2 := hR.frz ps[k].1 ps[k].2 P.lt P.nb
          exact e1.trans (e2.trans P.f))
      clear hR P
      generalize (rNum (numsR k s).2).1 = n at *
      generalize ps[k] = pk at *
      obtain ⟨pB, pO⟩ := pk
      simp only at x0 HNX
      go_wp2_with fail
      refine HNUM.out.mono ?_; rintro e w1 ⟨rfl, hp⟩
      obtain ⟨hnx, ⟨x, hx⟩, hf⟩ := HNX.out w1 hp
      have HNX2 := Lib.hid hnx
      clear hp hnx HNX HNUM
      go_wp2
      go_roundw
      case rel => exact ⟨k + 1, by omega, by go_num, HNX2.out⟩
      case measure => simp [intOf]; omega
    · obtain rfl : k = ps.length := by omega
      have HR := Lib.hid hR
      clear hR
      go_wp2
      exact bodyPost_end (by simp [results, Tryd.results60, go_sem]) rfl ⟨rfl, HR.out⟩
set_option maxRecDepth 100000 in
set_option maxHeartbeats 4000000 in
theorem new_reader (A : Option Addr) (l : List Int) (c : Nat) (w : World) (hby : ByL w A l) (hb : isBy l) (hn : A = none → l.length = 0) (hl : l.length ≤ 1000000) :
    Calls Tryd.prog 59 #[.slice A l.length c] w fun e w' => ∃ b g, e = .returned (.pointer (some ⟨b, 0, none⟩)) ∧ Rd (fun i => i = g) w' b (some l) ∧ w.heap.size ≤ g ∧ w.heap.size ≤ b ∧ Below w.heap.size w w' ∧ g < w'.heap.size := by
  have hk : Below w.heap.size w (w.alloc (.cells #[.slice A l.length c] 28)) := by (repeat' (first | (with_reducible exact Below.refl _ _) | (with_reducible assumption) | (with_reducible refine Below.trans ?_ (Below.mono (by with_reducible assumption) ?_)) | (with_reducible refine Below.alloc ?_ ?_ _) | (with_reducible refine Below.setCell ?_ ?_ _) | (with_reducible refine below_drewN ?_ _) | (with_reducible refine Below.drew ?_) | go_size))
  have HJ := Lib.hid (oct_join w.heap.size 1 c A l (w.alloc (.cells #[.slice A l.length c] 28)) (by simp) (by simp) (hby.below hk) hn hl)
  have HK := Lib.hid hk
  have HBY := Lib.hid hb
  clear hby hk hb hn
  go_enter Tryd.func59, Tryd.ntmps59
  go_wp2_with fail
  refine HJ.out.mono ?_; rintro e w2 ⟨⟨g, cap, rfl, hown⟩, hb2⟩
  have hB2 : Below w.heap.size w w2 := HK.out.trans (hb2.mono (by simp))
  have hlt : w.heap.size < w2.heap.size := by have := hb2.size; simp at this; omega
  obtain ⟨A1, c1, e1, y1, b1, l1⟩ := Own8.bytes hown
  obtain ⟨rfl, rfl⟩ : some ⟨g, 0, none⟩ = A1 ∧ cap = c1 := by injection e1 with q1 q2 q3; exact ⟨q1, q3⟩
  obtain ⟨q1, q2, _, _⟩ := b1 _ rfl
  have hgl : g < w2.heap.size := (World.ownsRow.lt hown g rfl).2
  have hcm : cap ≤ maxLen := by
    rcases hown.2 with ⟨h, _⟩ | ⟨g', cap', cur, h, _, _, _, h2, _⟩
    · cases h
    · injection h with _ _ h3; omega
  have hge : w.heap.size ≤ g := by have : w.heap.size + 1 ≤ g := by simpa using q1
                                   omega
  have HR : Hid (Rd (fun i => i = g) (w2.alloc (.cells #[.slice (some ⟨g, 0, none⟩) l.length cap, .bool false] 145)) w2.heap.size (some l)) := Lib.hid
    ⟨fun e => by omega, by simp, by simp, by simp, (fun e => by cases e), fun bs e => by
      injection e with e
      subst e
      exact ⟨some ⟨g, 0, none⟩, cap, by simp, by simp, l1, hcm, y1.alloc _, (fun ad had _ => by injection had with had; subst had; exact ⟨rfl, rfl⟩), HBY.out, (fun e => by cases e)⟩⟩
  have HF := Lib.hid (And.intro hge (And.intro (Nat.le_of_lt hlt) (And.intro (hB2.alloc hB2.size (.cells #[.slice (some ⟨g, 0, none⟩) l.length cap, .bool false] 145)) (show g < (w2.alloc (.cells #[.slice (some ⟨g, 0, none⟩) l.length cap, .bool false] 145)).heap.size from by simp; omega))))
  clear hown hb2 hB2 y1 b1 e1 HJ HK
  go_wp2
  go_ret
  exact ⟨_, g, rfl, HR.out, HF.out.1, HF.out.2.1, HF.out.2.2.1, HF.out.2.2.2⟩
end Go.Proofs.YtdffldlcbihjmaaDoor
