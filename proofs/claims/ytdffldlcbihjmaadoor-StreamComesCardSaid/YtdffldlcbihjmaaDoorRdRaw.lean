/- octet.Reader: Raw, Bytes. -/
import Derived.Test.YtdffldlcbihjmaaDoorRd
import Derived.Test.YtdffldlcbihjmaaDoorOctJoin
set_option linter.unusedSimpArgs false
set_option linter.unusedVariables false
namespace Go.Proofs.YtdffldlcbihjmaaDoor
open Go.RowKit

variable {Q : Nat → Prop}
/-- Bytes are told: in new memory, or none. -/
def TakeRes (p : List Int) (w w' : World) (e : Ending) : Prop := ∃ A c, e = .returned (.slice A p.length c) ∧ ByL w' A p ∧ (A = none → p.length = 0 ∧ c = 0) ∧ p.length ≤ c ∧ c ≤ maxLen ∧ (∀ ad, A = some ad → w.heap.size ≤ ad.block ∧ ad.spot = none)
theorem TakeRes.nil (w w' : World) : TakeRes [] w w' (.returned (.slice none 0 0)) := ⟨none, 0, rfl, ByL.nil _ _, fun _ => ⟨rfl, rfl⟩, Nat.le_refl _, by unfold maxLen; omega, fun _ h => by cases h⟩
theorem rRaw_none (n : Nat) : rRaw n none = ([], none) := rfl
theorem rRaw_long {n : Nat} {bs : List Int} (h : bs.length < n) : rRaw n (some bs) = ([], none) := by simp only [rRaw]; rw [if_pos h]
theorem rRaw_yes {n : Nat} {bs : List Int} (h : n ≤ bs.length) : rRaw n (some bs) = (bs.take n, some (bs.drop n)) := by simp only [rRaw]; rw [if_neg (by omega)]
set_option maxRecDepth 100000 in
set_option maxHeartbeats 4000000 in
theorem rd_raw_bad (b n : Nat) (s : RSt) (w : World) (h : Rd Q w b s) (hn : rLeft s < n) (hn2 : n ≤ 4611686018427387904) :
    Calls Tryd.prog 62 #[.pointer (some ⟨b, 0, none⟩), .int .i64 n] w fun e w' => e = .returned (.slice none 0 0) ∧ RdPost Q b none w w' := by
  have HL := Lib.hid (rd_left b s w h)
  have HBAD := Lib.hid (rd_bad b s w h)
  have hni : (rLeft s : Int) < (n : Int) := by omega
  have hn0 : ¬ (n : Int) < 0 := by omega
  generalize rLeft s = L at *
  clear h hn
  go_enter Tryd.func62, Tryd.ntmps62
  go_wp2_with (first | (go_at_call 63; refine HL.out.mono ?_; rintro e w1 ⟨rfl, rfl⟩) | (go_at_call 96; refine HBAD.out.mono ?_; rintro e w2 ⟨rfl, hp2⟩; have HP := Lib.hid hp2; have HG := Lib.hid (rd_good_no b w2 hp2.rd); clear hp2) | (go_at_call 97; refine HG.out.mono ?_; rintro e w3 ⟨rfl, rfl⟩))
  go_ret
  exact ⟨rfl, HP.out⟩
set_option maxRecDepth 100000 in
set_option maxHeartbeats 4000000 in
theorem rd_raw_none0 (b : Nat) (w : World) (h : Rd Q w b none) :
    Calls Tryd.prog 62 #[.pointer (some ⟨b, 0, none⟩), .int .i64 0] w fun e w' => e = .returned (.slice none 0 0) ∧ RdPost Q b none w w' := by
  have HL := Lib.hid (rd_left b none w h)
  have HG := Lib.hid (rd_good_no b w h)
  have HH := Lib.hid h
  have e0 : ((rLeft none : Nat) : Int) = 0 := rfl
  rw [e0] at HL
  clear h e0
  go_enter Tryd.func62, Tryd.ntmps62
  go_wp2_with (first | (go_at_call 63; refine HL.out.mono ?_; rintro e w1 ⟨rfl, rfl⟩) | (go_at_call 97; refine HG.out.mono ?_; rintro e w3 ⟨rfl, rfl⟩))
  go_ret
  exact ⟨rfl, HH.out, Only.refl _ _⟩
set_option maxRecDepth 100000 in
set_option maxHeartbeats 4000000 in
theorem rd_raw_yes (b n : Nat) (bs : List Int) (w : World) (h : Rd Q w b (some bs)) (hn : n ≤ bs.length) (hl : bs.length ≤ 1000000) :
    Calls Tryd.prog 62 #[.pointer (some ⟨b, 0, none⟩), .int .i64 n] w fun e w' => TakeRes (bs.take n) w w' e ∧ RdPost Q b (some (bs.drop n)) w w' := by
  have HL := Lib.hid (rd_left b (some bs) w h)
  have HG := Lib.hid (rd_good_yes b bs w h)
  have HH := Lib.hid h
  have eL : ((rLeft (some bs) : Nat) : Int) = (bs.length : Int) := rfl
  rw [eL] at HL
  clear eL
  obtain ⟨A, c, c0, c1, hc, hcm, hby, hav, hbb, hA0⟩ := h.yes bs rfl
  have lt := h.lt
  have hlen : (bs.take n).length = n := by rw [List.length_take]; omega
  have hk : Below w.heap.size w (w.alloc (.cells #[.slice A n c] 28)) := by (repeat' (first | (with_reducible exact Below.refl _ _) | (with_reducible assumption) | (with_reducible refine Below.trans ?_ (Below.mono (by with_reducible assumption) ?_)) | (with_reducible refine Below.alloc ?_ ?_ _) | (with_reducible refine Below.setCell ?_ ?_ _) | (with_reducible refine below_drewN ?_ _) | (with_reducible refine Below.drew ?_) | go_size))
  have HJ := Lib.hid (oct_join w.heap.size 1 c A (bs.take n) (w.alloc (.cells #[.slice A n c] 28)) (by simp) (by rw [hlen]; simp) ((hby.take n).below hk) (fun e => by rw [hlen]; have := (hA0 e).1; omega) (by omega))
  have HK := Lib.hid hk
  have HLN := Lib.hid hlen
  have h1 : ¬ (n : Int) < 0 := by omega
  have h2 : (n : Int) ≤ (bs.length : Int) := by omega
  have h3 : (bs.length : Int) ≤ (c : Int) := by omega
  have h4 : (n : Int) ≤ (c : Int) := by omega
  have HA := Lib.hid hA0
  have hav2 := hav
  unfold maxLen at hcm
  clear h hk hby hav hbb hlen hA0
  go_enter Tryd.func62, Tryd.ntmps62
  go_wp2_with (first | (go_at_call 63; refine HL.out.mono ?_; rintro e w1 ⟨rfl, rfl⟩) | (go_at_call 97; refine HG.out.mono ?_; rintro e w3 ⟨rfl, rfl⟩))
  refine HJ.out.mono ?_; rintro e w2 ⟨⟨g, cap, rfl, hown⟩, hb2⟩
  have hB2 : Below w.heap.size w w2 := HK.out.trans (hb2.mono (by simp))
  have hR2 := HH.out.below hB2
  have d0 := (hB2.cell (p := ⟨b, 0, none⟩) lt).trans c0
  have d1 := (hB2.cell (p := ⟨b, 1, none⟩) lt).trans c1
  have df := hR2.f0
  have lt2 := hR2.lt
  rw [HLN.out] at hown ⊢
  have HO := Lib.hid hown
  have HB2 := Lib.hid hB2
  have HR2 := Lib.hid hR2
  clear hown hb2 hB2 hR2 c0 c1 HL HG HJ HK
  have FIN : Hid (∀ V, RdPost Q b (some (bs.drop n)) w2 V → TakeRes (bs.take n) w V (.returned (.slice (some ⟨g, 0, none⟩) n cap)) ∧ RdPost Q b (some (bs.drop n)) w V) := Lib.hid (fun V hV => by
    have hg := HO.out
    obtain ⟨A1, c1', e1, y1, b1, l1⟩ := Own8.bytes (show Own8 _ w2 (.slice (some ⟨g, 0, none⟩) (bs.take n).length cap) (bs.take n) from by rw [HLN.out]; exact hg)
    obtain ⟨rfl, rfl⟩ : some ⟨g, 0, none⟩ = A1 ∧ cap = c1' := by injection e1 with q1 q2 q3; exact ⟨q1, q3⟩
    obtain ⟨q1, q2, _, _⟩ := b1 _ rfl
    have hcm : cap ≤ maxLen := by
      rcases hg.2 with ⟨h, _⟩ | ⟨g', cap', cur, h, _, _, _, h2, _⟩
      · cases h
      · injection h with _ _ h3; omega
    have q3 : w.heap.size + 1 ≤ g := by simpa using q1
    refine ⟨⟨some ⟨g, 0, none⟩, cap, by rw [HLN.out], y1.only hV.only (fun ad had => by injection had with had; subst had; show g ≠ b; have := lt; omega), (fun e => by cases e), by rw [HLN.out] at l1 ⊢; exact l1, hcm, fun ad had => by injection had with had; subst had; exact ⟨by show w.heap.size ≤ g; omega, rfl⟩⟩, hV.rd, (Only.of_below HB2.out).trans hV.only⟩)
  cases A with
  | none =>
    obtain ⟨hb0, hc0⟩ := HA.out rfl
    have hbn : bs = [] := List.length_eq_zero_iff.1 hb0
    subst hbn
    subst hc0
    have hn00 : n = 0 := by simpa using hn
    subst hn00
    have HN := Lib.hid (HR2.out.next (n := 0) (A' := none) (Nat.zero_le _) d0 (by simp))
    clear HA hav2
    go_wp2
    go_ret
    exact FIN.out _ HN.out
  | some ad =>
    by_cases hbz : bs.length = 0
    · have hbn : bs = [] := List.length_eq_zero_iff.1 hbz
      subst hbn
      have hn00 : n = 0 := by simpa using hn
      subst hn00
      by_cases hce : c = 0
      · have HN := Lib.hid (HR2.out.next (n := 0) (A' := some ad) (Nat.zero_le _) d0 (by rw [if_pos hce]))
        subst hce
        clear HA hav2
        go_wp2
        go_ret
        refine FIN.out _ ?_
        simpa using HN.out
      · have HN := Lib.hid (HR2.out.next (n := 0) (A' := some ad) (Nat.zero_le _) d0 (by rw [if_neg hce]; simp [Addr.add]))
        have hce' : ¬ (c : Int) = 0 := by omega
        clear HA hav2
        go_wp2
        go_ret
        refine FIN.out _ ?_
        simpa using HN.out
    obtain ⟨B, O, sp⟩ := ad
    obtain ⟨_, hsp⟩ := hav2 _ rfl (by omega)
    simp only at hsp
    subst hsp
    by_cases hce : c = n
    · have HN := Lib.hid (HR2.out.next (n := n) (A' := some ⟨B, O, none⟩) hn d0 (by rw [if_pos hce]))
      have hbl : bs.length - n = 0 := by omega
      subst hce
      clear HA hav2
      go_wp2
      go_ret
      refine FIN.out _ ?_
      have q := HN.out
      rwa [hbl, Nat.sub_self] at q
    · have HN := Lib.hid (HR2.out.next (n := n) (A' := some ⟨B, O + n, none⟩) hn d0 (by rw [if_neg hce]; simp [at_add]))
      have hce' : ¬ (c : Int) = (n : Int) := by omega
      clear HA hav2
      go_wp2
      go_ret
      exact FIN.out _ HN.out
theorem rd_raw (b n : Nat) (s : RSt) (w : World) (h : Rd Q w b s) (hn : n ≤ 4611686018427387904) (hl : rLeft s ≤ 1000000) :
    Calls Tryd.prog 62 #[.pointer (some ⟨b, 0, none⟩), .int .i64 n] w fun e w' => TakeRes (rRaw n s).1 w w' e ∧ RdPost Q b (rRaw n s).2 w w' := by
  cases s with
  | none =>
    rw [rRaw_none]
    rcases Nat.eq_zero_or_pos n with h0 | h0
    · subst h0
      exact (rd_raw_none0 b w h).mono fun e w' ⟨h1, h2⟩ => ⟨h1 ▸ TakeRes.nil w w', h2⟩
    · exact (rd_raw_bad b n none w h h0 hn).mono fun e w' ⟨h1, h2⟩ => ⟨h1 ▸ TakeRes.nil w w', h2⟩
  | some bs =>
    rcases Nat.lt_or_ge bs.length n with h0 | h0
    · rw [rRaw_long h0]
      exact (rd_raw_bad b n (some bs) w h h0 hn).mono fun e w' ⟨h1, h2⟩ => ⟨h1 ▸ TakeRes.nil w w', h2⟩
    · rw [rRaw_yes h0]
      exact rd_raw_yes b n bs w h h0 hl
theorem TakeRes.first {p : List Int} {w w1 w2 : World} {e : Ending} (h : TakeRes p w1 w2 e) (k : w.heap.size ≤ w1.heap.size) : TakeRes p w w2 e := by
  obtain ⟨A, c, h1, h2, h3, h4, h5, h6⟩ := h
  exact ⟨A, c, h1, h2, h3, h4, h5, fun ad had => ⟨Nat.le_trans k (h6 ad had).1, (h6 ad had).2⟩⟩
set_option maxHeartbeats 2000000 in
theorem rd_bytes (b : Nat) (s : RSt) (w : World) (h : Rd Q w b s) (hl : rLeft s ≤ 1000000) :
    Calls Tryd.prog 95 #[.pointer (some ⟨b, 0, none⟩)] w fun e w' => TakeRes (rBytes s).1 w w' e ∧ RdPost Q b (rBytes s).2 w w' := by
  have HN := Lib.hid (rd_num b s w h hl)
  have HB : Hid ((rNum s).1 ≤ 4611686018427387904 ∧ rLeft (rNum s).2 ≤ 1000000) := Lib.hid ⟨by have := rNum_le h.by_; simpa using this, Nat.le_trans (rNum_left s) hl⟩
  have lt := h.lt
  clear h hl
  go_enter Tryd.func95, Tryd.ntmps95
  go_wp2_with fail
  refine HN.out.mono ?_; rintro e w1 ⟨rfl, hp⟩
  have HR := Lib.hid (rd_raw b (rNum s).1 (rNum s).2 w1 hp.rd HB.out.1 HB.out.2)
  have HP := Lib.hid hp
  clear hp HN
  go_wp2_with fail
  refine HR.out.mono ?_; rintro e w2 ⟨ht, hp2⟩
  have HT := Lib.hid (ht.first HP.out.only.size)
  have HP2 : Hid (RdPost Q b (rBytes s).2 w w2) := Lib.hid ⟨hp2.rd, HP.out.only.trans hp2.only⟩
  obtain ⟨A, c, he, _⟩ := ht
  subst he
  clear hp2 HR HP
  go_wp2
  go_ret
  exact ⟨HT.out, HP2.out⟩
end Go.Proofs.YtdffldlcbihjmaaDoor
