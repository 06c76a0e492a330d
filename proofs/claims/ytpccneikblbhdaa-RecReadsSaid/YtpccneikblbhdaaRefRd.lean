/- The reference's Reader: Bad, Raw, Bytes, Whole. -/
import Derived.Test.YtpccneikblbhdaaRdRaw
set_option linter.unusedSimpArgs false
set_option linter.unusedVariables false
namespace Go.Proofs.Ytpccneikblbhdaa
open Go.RowKit

variable {Q : Nat → Prop}
theorem Rd.set_no' {w : World} {b : Nat} {s : RSt} (h : Rd Q w b s) : RdPost Q b none w ((w.setCell ⟨b, 1, none⟩ (.bool true)).setCell ⟨b, 0, none⟩ (.slice none 0 0)) := by
  have hc0 : ∃ v, w.cell? ⟨b, 0, none⟩ = some v := by
    cases s with
    | none => exact ⟨_, (h.no rfl).1⟩
    | some bs => obtain ⟨A, c, h0, _⟩ := h.yes bs rfl; exact ⟨_, h0⟩
  have hc1 : ∃ v, w.cell? ⟨b, 1, none⟩ = some v := by
    cases s with
    | none => exact ⟨_, (h.no rfl).2⟩
    | some bs => obtain ⟨A, c, _, h1, _⟩ := h.yes bs rfl; exact ⟨_, h1⟩
  obtain ⟨v0, hv0⟩ := hc0
  obtain ⟨v1, hv1⟩ := hc1
  refine ⟨⟨h.nq, by have := h.lt; simpa [World.setCell] using this, by simpa using h.f0, by simpa using h.f1, fun _ => ⟨?_, ?_⟩, fun bs e => by cases e⟩, ((Only.refl _ _).setB _).setB _⟩
  · exact World.cell?_setCell_same _ _ _ ((World.cell?_setCell_other _ _ _ _ (by simp)).trans hv0)
  · rw [World.cell?_setCell_other _ _ _ _ (by simp)]
    exact World.cell?_setCell_same _ _ _ hv1
theorem rr_bad (b : Nat) (s : RSt) (w : World) (h : Rd Q w b s) : Calls Try.prog 46 #[.pointer (some ⟨b, 0, none⟩)] w fun e w' => e = .returned (.tuple #[]) ∧ RdPost Q b none w w' := by
  have HS := Lib.hid h.set_no'
  have lt := h.lt
  have f0 := h.f0
  have f1 := h.f1
  obtain ⟨v0, hv0⟩ : ∃ v, w.cell? ⟨b, 0, none⟩ = some v := by
    cases s with
    | none => exact ⟨_, (h.no rfl).1⟩
    | some bs => obtain ⟨A, c, h0, _⟩ := h.yes bs rfl; exact ⟨_, h0⟩
  obtain ⟨v1, hv1⟩ : ∃ v, w.cell? ⟨b, 1, none⟩ = some v := by
    cases s with
    | none => exact ⟨_, (h.no rfl).2⟩
    | some bs => obtain ⟨A, c, _, h1, _⟩ := h.yes bs rfl; exact ⟨_, h1⟩
  clear h
  go_enter Try.func46, Try.ntmps46
  go_wp2
  exact bodyPost_end (by simp [results, Try.results46, go_sem]) rfl ⟨rfl, HS.out⟩
theorem rr_whole (b : Nat) (s : RSt) (w : World) (h : Rd Q w b s) : Calls Try.prog 43 #[.pointer (some ⟨b, 0, none⟩)] w fun e w' => e = .returned (.bool (decide (s = some []))) ∧ w = w' := by
  have lt := h.lt
  have hud : undef = Value.tuple #[] := rfl
  cases s with
  | none =>
    obtain ⟨c0, c1⟩ := h.no rfl
    clear h
    go_enter Try.func43, Try.ntmps43
    go_wp2
    go_ret
    exact ⟨by simp, rfl⟩
  | some bs =>
    obtain ⟨A, c, c0, c1, _⟩ := h.yes bs rfl
    have HD : Hid ((bs.length == 0) = decide ((some bs : RSt) = some [])) := Lib.hid (by
      rw [Bool.eq_iff_iff, decide_eq_true_eq]
      cases bs <;> simp)
    cases hz : bs.length == 0
    · have HZ := Lib.hid hz
      have t1 : ((bs.length : Int) == 0) = false := by simp at hz ⊢; exact hz
      clear h hz
      go_enter Try.func43, Try.ntmps43
      go_wp2
      go_ret
      exact ⟨by rw [← HD.out, HZ.out]; rfl, rfl⟩
    · have HZ := Lib.hid hz
      have t1 : ((bs.length : Int) == 0) = true := by simp at hz ⊢; exact hz
      clear h hz
      go_enter Try.func43, Try.ntmps43
      go_wp2
      go_ret
      exact ⟨by rw [← HD.out, HZ.out]; rfl, rfl⟩
set_option maxRecDepth 100000 in
set_option maxHeartbeats 4000000 in
theorem rr_raw_bad (b n : Nat) (s : RSt) (w : World) (h : Rd Q w b s) (hn : rLeft s < n) (hn2 : n ≤ 4611686018427387904) :
    Calls Try.prog 54 #[.pointer (some ⟨b, 0, none⟩), .int .i64 n] w fun e w' => e = .returned (.slice none 0 0) ∧ RdPost Q b none w w' := by
  have HBAD := Lib.hid (rr_bad b s w h)
  have lt := h.lt
  have hni : (rLeft s : Int) < (n : Int) := by omega
  have hn0 : ¬ (n : Int) < 0 := by omega
  have HC : Hid (∃ A c, w.cell? ⟨b, 0, none⟩ = some (.slice A (rLeft s) c)) := Lib.hid (by
    cases s with
    | none => exact ⟨none, 0, (h.no rfl).1⟩
    | some bs => obtain ⟨A, c, h0, _⟩ := h.yes bs rfl; exact ⟨A, c, h0⟩)
  obtain ⟨A, c, c0⟩ := HC.out
  generalize rLeft s = L at *
  clear h hn HC
  go_enter Try.func54, Try.ntmps54
  go_wp2_with (go_at_call 46; refine HBAD.out.mono ?_; rintro e w2 ⟨rfl, hp2⟩; have HP := Lib.hid hp2; have lt2 := hp2.rd.lt; obtain ⟨d0, d1⟩ := hp2.rd.no rfl; clear hp2)
  go_ret
  exact ⟨rfl, HP.out⟩
set_option maxRecDepth 100000 in
set_option maxHeartbeats 4000000 in
theorem rr_raw_none0 (b : Nat) (w : World) (h : Rd Q w b none) :
    Calls Try.prog 54 #[.pointer (some ⟨b, 0, none⟩), .int .i64 0] w fun e w' => e = .returned (.slice none 0 0) ∧ RdPost Q b none w w' := by
  obtain ⟨c0, c1⟩ := h.no rfl
  have lt := h.lt
  have HH := Lib.hid h
  clear h
  go_enter Try.func54, Try.ntmps54
  go_wp2
  go_ret
  exact ⟨rfl, HH.out, Only.refl _ _⟩
set_option maxRecDepth 100000 in
set_option maxHeartbeats 4000000 in
theorem rr_raw_yes (b n : Nat) (bs : List Int) (w : World) (h : Rd Q w b (some bs)) (hn : n ≤ bs.length) (hl : bs.length ≤ 1000000) :
    Calls Try.prog 54 #[.pointer (some ⟨b, 0, none⟩), .int .i64 n] w fun e w' => TakeRes (bs.take n) w w' e ∧ RdPost Q b (some (bs.drop n)) w w' := by
  obtain ⟨i0, hi0, hz0, hz1, hz2⟩ := info_parts u8_info
  have HH := Lib.hid h
  obtain ⟨A, c, c0, c1, hc, hcm, hby, hav, hbb, hA0⟩ := h.yes bs rfl
  have lt := h.lt
  have f0 := h.f0
  have hlen : (bs.take n).length = n := by rw [List.length_take]; omega
  have hk : Below w.heap.size w (w.alloc (.cells #[] 5)) := by (repeat' (first | (with_reducible exact Below.refl _ _) | (with_reducible assumption) | (with_reducible refine Below.trans ?_ (Below.mono (by with_reducible assumption) ?_)) | (with_reducible refine Below.alloc ?_ ?_ _) | (with_reducible refine Below.setCell ?_ ?_ _) | (with_reducible refine below_drewN ?_ _) | (with_reducible refine Below.drew ?_) | go_size))
  have hmade := World.ownsRow_made (base := w.heap.size) (e := 5) (size := 1) w #[] 0 (Nat.le_refl _) (Nat.zero_le _) rfl
  have HK := Lib.hid hk
  have HLN := Lib.hid hlen
  have h1 : ¬ (n : Int) < 0 := by omega
  have h2 : (n : Int) ≤ (bs.length : Int) := by omega
  have h3 : (bs.length : Int) ≤ (c : Int) := by omega
  have h4 : (n : Int) ≤ (c : Int) := by omega
  have HA := Lib.hid hA0
  unfold maxLen at hcm
  have FIN : Hid (∀ (g cap : Nat) (w2 V : World), w2.ownsRow w.heap.size 5 1 (.slice (some ⟨g, 0, none⟩) n cap) n (bC (bs.take n)) → Below w.heap.size w w2 → RdPost Q b (some (bs.drop n)) w2 V → TakeRes (bs.take n) w V (.returned (.slice (some ⟨g, 0, none⟩) n cap)) ∧ RdPost Q b (some (bs.drop n)) w V) := Lib.hid (fun g cap w2 V hg hB2 hV => by
    obtain ⟨A1, c1', e1, y1, b1, l1⟩ := Own8.bytes (show World.ownsRow w2 w.heap.size 5 1 (.slice (some ⟨g, 0, none⟩) (bs.take n).length cap) (bs.take n).length (bC (bs.take n)) from by rw [HLN.out]; exact hg)
    obtain ⟨rfl, rfl⟩ : some ⟨g, 0, none⟩ = A1 ∧ cap = c1' := by injection e1 with q1 q2 q3; exact ⟨q1, q3⟩
    obtain ⟨q1, q2, _, _⟩ := b1 _ rfl
    have hcm : cap ≤ maxLen := by
      rcases hg.2 with ⟨h, _⟩ | ⟨g', cap', cur, h, _, _, _, h2, _⟩
      · cases h
      · injection h with _ _ h3; omega
    have q3 : w.heap.size ≤ g := q1
    refine ⟨⟨some ⟨g, 0, none⟩, cap, by rw [HLN.out], y1.only hV.only (fun ad had => by injection had with had; subst had; show g ≠ b; have := lt; omega), (fun e => by cases e), by rw [HLN.out] at l1 ⊢; exact l1, hcm, fun ad had => by injection had with had; subst had; exact ⟨q3, rfl⟩⟩, hV.rd, (Only.of_below hB2).trans hV.only⟩)
  have FIN0 : Hid (n = 0 → ∀ (V : World), RdPost Q b (some (bs.drop n)) (w.alloc (.cells #[] 5)) V → TakeRes (bs.take n) w V (.returned (.slice (some ⟨w.heap.size, 0, none⟩) 0 0)) ∧ RdPost Q b (some (bs.drop n)) w V) := Lib.hid (fun e V hV => by
    subst e
    exact FIN.out w.heap.size 0 _ V hmade HK.out hV)
  have hRa := h.below hk
  have d0 := (hk.cell (p := ⟨b, 0, none⟩) lt).trans c0
  have HRa := Lib.hid hRa
  have HD0 := Lib.hid d0
  by_cases hn0 : n = 0
  · have HN0 := Lib.hid hn0
    have hld := empty_loads.1
    have hst := empty_loads.2
    cases A with
    | none =>
      obtain ⟨hb0, hc0⟩ := HA.out rfl
      have hbn : bs = [] := List.length_eq_zero_iff.1 hb0
      subst hbn
      subst hc0
      subst hn0
      have HN := Lib.hid (HRa.out.next (n := 0) (A' := none) (Nat.zero_le _) HD0.out (by simp))
      clear HA hav h hby hmade hk hRa d0 hbb hA0 hlen
      go_enter Try.func54, Try.ntmps54
      go_wp2
      go_ret
      have q := HN.out
      rw [World.setCell_alloc_past _ _ _ _ lt] at q
      exact FIN0.out (by first | rfl | trivial) _ (by first | exact q | (rw [World.setCell_alloc_past _ _ _ _ lt]; exact q) | simpa using q)
    | some ad =>
      by_cases hbz : bs.length = 0
      · have hbn : bs = [] := List.length_eq_zero_iff.1 hbz
        subst hbn
        subst hn0
        by_cases hce : c = 0
        · have HN := Lib.hid (HRa.out.next (n := 0) (A' := some ad) (Nat.zero_le _) HD0.out (by rw [if_pos hce]))
          subst hce
          clear HA hav h hby hmade hk hRa d0 hbb hA0 hlen
          go_enter Try.func54, Try.ntmps54
          go_wp2
          go_ret
          refine FIN0.out (by first | rfl | trivial) _ ?_
          have q := HN.out
          rw [World.setCell_alloc_past _ _ _ _ lt] at q
          simpa using q
        · have HN := Lib.hid (HRa.out.next (n := 0) (A' := some ad) (Nat.zero_le _) HD0.out (by rw [if_neg hce]; simp [Addr.add]))
          have hce' : ¬ (c : Int) = 0 := by omega
          clear HA hav h hby hmade hk hRa d0 hbb hA0 hlen
          go_enter Try.func54, Try.ntmps54
          go_wp2
          go_ret
          refine FIN0.out (by first | rfl | trivial) _ ?_
          have q := HN.out
          rw [World.setCell_alloc_past _ _ _ _ lt] at q
          simpa using q
      obtain ⟨B, O, sp⟩ := ad
      obtain ⟨_, hsp⟩ := hav _ rfl (by omega)
      simp only at hsp
      subst hsp
      subst hn0
      by_cases hce : c = 0
      · exfalso; omega
      · have HN := Lib.hid (HRa.out.next (n := 0) (A' := some ⟨B, O + 0, none⟩) (Nat.zero_le _) HD0.out (by rw [if_neg hce]; simp [at_add]))
        have hce' : ¬ (c : Int) = 0 := by omega
        clear HA hav h hby hmade hk hRa d0 hbb hA0 hlen
        go_enter Try.func54, Try.ntmps54
        go_wp2
        go_ret
        refine FIN0.out (by first | rfl | trivial) _ ?_
        have q := HN.out
        rw [World.setCell_alloc_past _ _ _ _ lt] at q
        simpa using q
  · have hpos : 0 < n := by omega
    obtain ⟨ad, rfl⟩ : ∃ ad, A = some ad := by
      cases A with
      | none => have := (hA0 rfl).1; omega
      | some ad => exact ⟨ad, rfl⟩
    have hsrc := ((hby.take n).below hk).cells
    obtain ⟨B, O, sp⟩ := ad
    obtain ⟨hqb, hsp⟩ := hav _ rfl (by omega)
    simp only at hsp
    subst hsp
    have hbl : (bC (bs.take n)).length = n * 1 := by rw [bC_len, hlen]; omega
    have HNE : Hid (∀ w2, World.grownBy (w.alloc (.cells #[] 5)) w2 (Value.slice (some ⟨w.heap.size, 0, none⟩) 0 0).ownBlock → Below w.heap.size w w2 ∧ Rd Q w2 b (some bs)) := Lib.hid (fun w2 hg => by
      have B2 := HK.out.grown hg (by simp) (fun k hk => by simp [Value.ownBlock] at hk; omega)
      exact ⟨B2, HH.out.below B2⟩)
    by_cases hce : c = n
    · subst hce
      clear HA hav h hby hk hRa d0 hbb hA0 hlen HD0
      go_enter Try.func54, Try.ntmps54
      go_wp2_with (at_builtin; refine wpList_append_lies _ rfl (.tmp 23) (.tmp 29) _ rfl w.heap.size 5 i0 _ 1 1 Try.underlying24 hi0 hz0 hz1 hz2 rfl (by decide) (.slice (some ⟨w.heap.size, 0, none⟩) 0 0) 0 [] rfl hmade ⟨B, O, none⟩ c c (bC (bs.take c)) rfl hbl hsrc (bC_one _) hpos (by unfold maxLen; omega) (by omega) (by simp) _ rfl ?_; intro g cap w2 hown hg2 hat2 hlt2; have hown2 : w2.ownsRow w.heap.size 5 1 (.slice (some ⟨g, 0, none⟩) c cap) c (bC (bs.take c)) := (by simpa using hown); obtain ⟨hB2, hR2⟩ := HNE.out w2 hg2; have d0 := (hB2.cell (p := ⟨b, 0, none⟩) lt).trans c0; have df := hR2.f0; have dl := hR2.lt; have HO2 := Lib.hid hown2; have HB2 := Lib.hid hB2; have HN := Lib.hid (hR2.next (n := c) (A' := some ⟨B, O, none⟩) hn d0 (by rw [if_pos rfl])); clear hown hown2 hg2 hat2 hlt2 hB2 hR2 hsrc hmade c0 c1)
      go_ret
      refine FIN.out g cap w2 _ HO2.out HB2.out ?_
      have q := HN.out
      rwa [show bs.length - c = 0 from by omega, Nat.sub_self] at q
    · have hce' : ¬ (c : Int) = (n : Int) := by omega
      clear HA hav h hby hk hRa d0 hbb hA0 hlen HD0
      go_enter Try.func54, Try.ntmps54
      go_wp2_with (at_builtin; refine wpList_append_lies _ rfl (.tmp 23) (.tmp 29) _ rfl w.heap.size 5 i0 _ 1 1 Try.underlying24 hi0 hz0 hz1 hz2 rfl (by decide) (.slice (some ⟨w.heap.size, 0, none⟩) 0 0) 0 [] rfl hmade ⟨B, O, none⟩ n c (bC (bs.take n)) rfl hbl hsrc (bC_one _) hpos (by unfold maxLen; omega) (by omega) (by simp) _ rfl ?_; intro g cap w2 hown hg2 hat2 hlt2; have hown2 : w2.ownsRow w.heap.size 5 1 (.slice (some ⟨g, 0, none⟩) n cap) n (bC (bs.take n)) := (by simpa using hown); obtain ⟨hB2, hR2⟩ := HNE.out w2 hg2; have d0 := (hB2.cell (p := ⟨b, 0, none⟩) lt).trans c0; have df := hR2.f0; have dl := hR2.lt; have HO2 := Lib.hid hown2; have HB2 := Lib.hid hB2; have HN := Lib.hid (hR2.next (n := n) (A' := some ⟨B, O + n, none⟩) hn d0 (by rw [if_neg hce]; simp [at_add])); clear hown hown2 hg2 hat2 hlt2 hB2 hR2 hsrc hmade c0 c1)
      go_ret
      exact FIN.out g cap w2 _ HO2.out HB2.out HN.out
theorem rr_raw (b n : Nat) (s : RSt) (w : World) (h : Rd Q w b s) (hn : n ≤ 4611686018427387904) (hl : rLeft s ≤ 1000000) :
    Calls Try.prog 54 #[.pointer (some ⟨b, 0, none⟩), .int .i64 n] w fun e w' => TakeRes (rRaw n s).1 w w' e ∧ RdPost Q b (rRaw n s).2 w w' := by
  cases s with
  | none =>
    rw [rRaw_none]
    rcases Nat.eq_zero_or_pos n with h0 | h0
    · subst h0
      exact (rr_raw_none0 b w h).mono fun e w' ⟨h1, h2⟩ => ⟨h1 ▸ TakeRes.nil w w', h2⟩
    · exact (rr_raw_bad b n none w h h0 hn).mono fun e w' ⟨h1, h2⟩ => ⟨h1 ▸ TakeRes.nil w w', h2⟩
  | some bs =>
    rcases Nat.lt_or_ge bs.length n with h0 | h0
    · rw [rRaw_long h0]
      exact (rr_raw_bad b n (some bs) w h h0 hn).mono fun e w' ⟨h1, h2⟩ => ⟨h1 ▸ TakeRes.nil w w', h2⟩
    · rw [rRaw_yes h0]
      exact rr_raw_yes b n bs w h h0 hl
end Go.Proofs.Ytpccneikblbhdaa
