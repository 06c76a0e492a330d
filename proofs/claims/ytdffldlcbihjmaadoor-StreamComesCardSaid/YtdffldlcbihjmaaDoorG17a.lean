/- The reference's ReadList (written by gen/refrdl.py). -/
import Derived.BigCall
import Derived.BigGuard
import Derived.BigGuardPart
import Derived.Test.YtdffldlcbihjmaaDoorRdRaw
import Derived.Test.YtdffldlcbihjmaaDoorRecDec
import Derived.Test.YtdffldlcbihjmaaDoorRecRow
/- The reference's Reader: Bad, Raw, Bytes, Whole. -/
set_option linter.unusedSimpArgs false
set_option linter.unusedVariables false
namespace Go.Proofs.YtdffldlcbihjmaaDoor
open Go.RowKit

variable {Q : Nat → Prop}
theorem Rd.set_no' {w : World} {b : Nat} {s : RSt} (h : Rd Q w b s) : RdPost Q b none w ((w.setCell ⟨b, 1, none⟩ (.bool true)).setCell ⟨b, 0, none⟩ (.slice none 0 0)) := by
  have hc0 : ∃ v, w.cell? ⟨b, 0, none⟩ = some v := by
    cases s with
    | none => exact ⟨_, (h.no rfl).1⟩
    | some bs => obtain ⟨A, c, h0, _⟩ := h.yes bs rfl; exact ⟨_, h0⟩
  have hc1 : ∃ v, w.cell? ⟨b, 1, none⟩ = some v := by
    cases s with
    | none => exact ⟨_, (h.no rfl).2⟩
    | some bs => obtain ⟨A, c, _, h1, _⟩ := h.yes bs rfl; exact ⟨_, h1⟩
  obtain ⟨v0, hv0⟩ := hc0
  obtain ⟨v1, hv1⟩ := hc1
  refine ⟨⟨h.nq, by have := h.lt; simpa [World.setCell] using this, by simpa using h.f0, by simpa using h.f1, fun _ => ⟨?_, ?_⟩, fun bs e => by cases e⟩, ((Only.refl _ _).setB _).setB _⟩
  · exact World.cell?_setCell_same _ _ _ ((World.cell?_setCell_other _ _ _ _ (by simp)).trans hv0)
  · rw [World.cell?_setCell_other _ _ _ _ (by simp)]
    exact World.cell?_setCell_same _ _ _ hv1
theorem rr_bad (b : Nat) (s : RSt) (w : World) (h : Rd Q w b s) : Calls Tryd.prog 100 #[.pointer (some ⟨b, 0, none⟩)] w fun e w' => e = .returned (.tuple #[]) ∧ RdPost Q b none w w' := by
  have HS := Lib.hid h.set_no'
  have lt := h.lt
  have f0 := h.f0
  have f1 := h.f1
  obtain ⟨v0, hv0⟩ : ∃ v, w.cell? ⟨b, 0, none⟩ = some v := by
    cases s with
    | none => exact ⟨_, (h.no rfl).1⟩
    | some bs => obtain ⟨A, c, h0, _⟩ := h.yes bs rfl; exact ⟨_, h0⟩
  obtain ⟨v1, hv1⟩ : ∃ v, w.cell? ⟨b, 1, none⟩ = some v := by
    cases s with
    | none => exact ⟨_, (h.no rfl).2⟩
    | some bs => obtain ⟨A, c, _, h1, _⟩ := h.yes bs rfl; exact ⟨_, h1⟩
  clear h
  go_enter Tryd.func100, Tryd.ntmps100
  go_wp2
  exact bodyPost_end (by simp [results, Tryd.results100, go_sem]) rfl ⟨rfl, HS.out⟩
theorem rr_whole (b : Nat) (s : RSt) (w : World) (h : Rd Q w b s) : Calls Tryd.prog 68 #[.pointer (some ⟨b, 0, none⟩)] w fun e w' => e = .returned (.bool (decide (s = some []))) ∧ w = w' := by
  have lt := h.lt
  have hud : undef = Value.tuple #[] := rfl
  cases s with
  | none =>
    obtain ⟨c0, c1⟩ := h.no rfl
    clear h
    go_enter Tryd.func68, Tryd.ntmps68
    go_wp2
    go_ret
    exact ⟨by simp, rfl⟩
  | some bs =>
    obtain ⟨A, c, c0, c1, _⟩ := h.yes bs rfl
    have HD : Hid ((bs.length == 0) = decide ((some bs : RSt) = some [])) := Lib.hid (by
      rw [Bool.eq_iff_iff, decide_eq_true_eq]
      cases bs <;> simp)
    cases hz : bs.length == 0
    · have HZ := Lib.hid hz
      have t1 : ((bs.length : Int) == 0) = false := by simp at hz ⊢; exact hz
      clear h hz
      go_enter Tryd.func68, Tryd.ntmps68
      go_wp2
      go_ret
      exact ⟨by rw [← HD.out, HZ.out]; rfl, rfl⟩
    · have HZ := Lib.hid hz
      have t1 : ((bs.length : Int) == 0) = true := by simp at hz ⊢; exact hz
      clear h hz
      go_enter Tryd.func68, Tryd.ntmps68
      go_wp2
      go_ret
      exact ⟨by rw [← HD.out, HZ.out]; rfl, rfl⟩
set_option maxRecDepth 100000 in
set_option maxHeartbeats 4000000 in
theorem rr_raw_bad (b n : Nat) (s : RSt) (w : World) (h : Rd Q w b s) (hn : rLeft s < n) (hn2 : n ≤ 4611686018427387904) :
    Calls Tryd.prog 99 #[.pointer (some ⟨b, 0, none⟩), .int .i64 n] w fun e w' => e = .returned (.slice none 0 0) ∧ RdPost Q b none w w' := by
  have HBAD := Lib.hid (rr_bad b s w h)
  have lt := h.lt
  have hni : (rLeft s : Int) < (n : Int) := by omega
  have hn0 : ¬ (n : Int) < 0 := by omega
  have HC : Hid (∃ A c, w.cell? ⟨b, 0, none⟩ = some (.slice A (rLeft s) c)) := Lib.hid (by
    cases s with
    | none => exact ⟨none, 0, (h.no rfl).1⟩
    | some bs => obtain ⟨A, c, h0, _⟩ := h.yes bs rfl; exact ⟨A, c, h0⟩)
  obtain ⟨A, c, c0⟩ := HC.out
  generalize rLeft s = L at *
  clear h hn HC
  go_enter Tryd.func99, Tryd.ntmps99
  go_wp2_with (go_at_call 100; refine HBAD.out.mono ?_; rintro e w2 ⟨rfl, hp2⟩; have HP := Lib.hid hp2; have lt2 := hp2.rd.lt; obtain ⟨d0, d1⟩ := hp2.rd.no rfl; clear hp2)
  go_ret
  exact ⟨rfl, HP.out⟩
set_option maxRecDepth 100000 in
set_option maxHeartbeats 4000000 in
theorem rr_raw_none0 (b : Nat) (w : World) (h : Rd Q w b none) :
    Calls Tryd.prog 99 #[.pointer (some ⟨b, 0, none⟩), .int .i64 0] w fun e w' => e = .returned (.slice none 0 0) ∧ RdPost Q b none w w' := by
  obtain ⟨c0, c1⟩ := h.no rfl
  have lt := h.lt
  have HH := Lib.hid h
  clear h
  go_enter Tryd.func99, Tryd.ntmps99
  go_wp2
  go_ret
  exact ⟨rfl, HH.out, Only.refl _ _⟩
set_option maxRecDepth 100000 in
set_option maxHeartbeats 4000000 in
theorem rr_raw_yes (b n : Nat) (bs : List Int) (w : World) (h : Rd Q w b (some bs)) (hn : n ≤ bs.length) (hl : bs.length ≤ 1000000) :
    Calls Tryd.prog 99 #[.pointer (some ⟨b, 0, none⟩), .int .i64 n] w fun e w' => TakeRes (bs.take n) w w' e ∧ RdPost Q b (some (bs.drop n)) w w' := by
  obtain ⟨i0, hi0, hz0, hz1, hz2⟩ := info_parts u8_info
  have HH := Lib.hid h
  obtain ⟨A, c, c0, c1, hc, hcm, hby, hav, hbb, hA0⟩ := h.yes bs rfl
  have lt := h.lt
  have f0 := h.f0
  have hlen : (bs.take n).length = n := by rw [List.length_take]; omega
  have hk : Below w.heap.size w (w.alloc (.cells #[] 5)) := by (repeat' (first | (with_reducible exact Below.refl _ _) | (with_reducible assumption) | (with_reducible refine Below.trans ?_ (Below.mono (by with_reducible assumption) ?_)) | (with_reducible refine Below.alloc ?_ ?_ _) | (with_reducible refine Below.setCell ?_ ?_ _) | (with_reducible refine below_drewN ?_ _) | (with_reducible refine Below.drew ?_) | go_size))
  have hmade := World.ownsRow_made (base := w.heap.size) (e := 5) (size := 1) w #[] 0 (Nat.le_refl _) (Nat.zero_le _) rfl
  have HK := Lib.hid hk
  have HLN := Lib.hid hlen
  have h1 : ¬ (n : Int) < 0 := by omega
  have h2 : (n : Int) ≤ (bs.length : Int) := by omega
  have h3 : (bs.length : Int) ≤ (c : Int) := by omega
  have h4 : (n : Int) ≤ (c : Int) := by omega
  have HA := Lib.hid hA0
  unfold maxLen at hcm
  have FIN : Hid (∀ (g cap : Nat) (w2 V : World), w2.ownsRow w.heap.size 5 1 (.slice (some ⟨g, 0, none⟩) n cap) n (bC (bs.take n)) → Below w.heap.size w w2 → RdPost Q b (some (bs.drop n)) w2 V → TakeRes (bs.take n) w V (.returned (.slice (some ⟨g, 0, none⟩) n cap)) ∧ RdPost Q b (some (bs.drop n)) w V) := Lib.hid (fun g cap w2 V hg hB2 hV => by
    obtain ⟨A1, c1', e1, y1, b1, l1⟩ := Own8.bytes (show World.ownsRow w2 w.heap.size 5 1 (.slice (some ⟨g, 0, none⟩) (bs.take n).length cap) (bs.take n).length (bC (bs.take n)) from by rw [HLN.out]; exact hg)
    obtain ⟨rfl, rfl⟩ : some ⟨g, 0, none⟩ = A1 ∧ cap = c1' := by injection e1 with q1 q2 q3; exact ⟨q1, q3⟩
    obtain ⟨q1, q2, _, _⟩ := b1 _ rfl
    have hcm : cap ≤ maxLen := by
      rcases hg.2 with ⟨h, _⟩ | ⟨g', cap', cur, h, _, _, _, h2, _⟩
      · cases h
      · injection h with _ _ h3; omega
    have q3 : w.heap.size ≤ g := q1
    refine ⟨⟨some ⟨g, 0, none⟩, cap, by rw [HLN.out], y1.only hV.only (fun ad had => by injection had with had; subst had; show g ≠ b; have := lt; omega), (fun e => by cases e), by rw [HLN.out] at l1 ⊢; exact l1, hcm, fun ad had => by injection had with had; subst had; exact ⟨q3, rfl⟩⟩, hV.rd, (Only.of_below hB2).trans hV.only⟩)
  have FIN0 : Hid (n = 0 → ∀ (V : World), RdPost Q b (some (bs.drop n)) (w.alloc (.cells #[] 5)) V → TakeRes (bs.take n) w V (.returned (.slice (some ⟨w.heap.size, 0, none⟩) 0 0)) ∧ RdPost Q b (some (bs.drop n)) w V) := Lib.hid (fun e V hV => by
    subst e
    exact FIN.out w.heap.size 0 _ V hmade HK.out hV)
  have hRa := h.below hk
  have d0 := (hk.cell (p := ⟨b, 0, none⟩) lt).trans c0
  have HRa := Lib.hid hRa
  have HD0 := Lib.hid d0
  by_cases hn0 : n = 0
  · have HN0 := Lib.hid hn0
    have hld := empty_loads.1
    have hst := empty_loads.2
    cases A with
    | none =>
      obtain ⟨hb0, hc0⟩ := HA.out rfl
      have hbn : bs = [] := List.length_eq_zero_iff.1 hb0
      subst hbn
      subst hc0
      subst hn0
      have HN := Lib.hid (HRa.out.next (n := 0) (A' := none) (Nat.zero_le _) HD0.out (by simp))
      clear HA hav h hby hmade hk hRa d0 hbb hA0 hlen
      go_enter Tryd.func99, Tryd.ntmps99
      go_wp2
      go_ret
      have q := HN.out
      rw [World.setCell_alloc_past _ _ _ _ lt] at q
      exact FIN0.out (by first | rfl | trivial) _ (by first | exact q | (rw [World.setCell_alloc_past _ _ _ _ lt]; exact q) | simpa using q)
    | some ad =>
      by_cases hbz : bs.length = 0
      · have hbn : bs = [] := List.length_eq_zero_iff.1 hbz
        subst hbn
        subst hn0
        by_cases hce : c = 0
        · have HN := Lib.hid (HRa.out.next (n := 0) (A' := some ad) (Nat.zero_le _) HD0.out (by rw [if_pos hce]))
          subst hce
          clear HA hav h hby hmade hk hRa d0 hbb hA0 hlen
          go_enter Tryd.func99, Tryd.ntmps99
          go_wp2
          go_ret
          refine FIN0.out (by first | rfl | trivial) _ ?_
          have q := HN.out
          rw [World.setCell_alloc_past _ _ _ _ lt] at q
          simpa using q
        · have HN := Lib.hid (HRa.out.next (n := 0) (A' := some ad) (Nat.zero_le _) HD0.out (by rw [if_neg hce]; simp [Addr.add]))
          have hce' : ¬ (c : Int) = 0 := by omega
          clear HA hav h hby hmade hk hRa d0 hbb hA0 hlen
          go_enter Tryd.func99, Tryd.ntmps99
          go_wp2
          go_ret
          refine FIN0.out (by first | rfl | trivial) _ ?_
          have q := HN.out
          rw [World.setCell_alloc_past _ _ _ _ lt] at q
          simpa using q
      obtain ⟨B, O, sp⟩ := ad
      obtain ⟨_, hsp⟩ := hav _ rfl (by omega)
      simp only at hsp
      subst hsp
      subst hn0
      by_cases hce : c = 0
      · exfalso; omega
      · have HN := Lib.hid (HRa.out.next (n := 0) (A' := some ⟨B, O + 0, none⟩) (Nat.zero_le _) HD0.out (by rw [if_neg hce]; simp [at_add]))
        have hce' : ¬ (c : Int) = 0 := by omega
        clear HA hav h hby hmade hk hRa d0 hbb hA0 hlen
        go_enter Tryd.func99, Tryd.ntmps99
        go_wp2
        go_ret
        refine FIN0.out (by first | rfl | trivial) _ ?_
        have q := HN.out
        rw [World.setCell_alloc_past _ _ _ _ lt] at q
        simpa using q
  · have hpos : 0 < n := by omega
    obtain ⟨ad, rfl⟩ : ∃ ad, A = some ad := by
      cases A with
      | none => have := (hA0 rfl).1; omega
      | some ad => exact ⟨ad, rfl⟩
    have hsrc := ((hby.take n).below hk).cells
    obtain ⟨B, O, sp⟩ := ad
    obtain ⟨hqb, hsp⟩ := hav _ rfl (by omega)
    simp only at hsp
    subst hsp
    have hbl : (bC (bs.take n)).length = n * 1 := by rw [bC_len, hlen]; omega
    have HNE : Hid (∀ w2, World.grownBy (w.alloc (.cells #[] 5)) w2 (Value.slice (some ⟨w.heap.size, 0, none⟩) 0 0).ownBlock → Below w.heap.size w w2 ∧ Rd Q w2 b (some bs)) := Lib.hid (fun w2 hg => by
      have B2 := HK.out.grown hg (by simp) (fun k hk => by simp [Value.ownBlock] at hk; omega)
      exact ⟨B2, HH.out.below B2⟩)
    by_cases hce : c = n
    · subst hce
      clear HA hav h hby hk hRa d0 hbb hA0 hlen HD0
      go_enter Tryd.func99, Tryd.ntmps99
      go_wp2_with (at_builtin; refine wpList_append_lies _ rfl (.tmp 23) (.tmp 29) _ rfl w.heap.size 5 i0 _ 1 1 Tryd.underlying28 hi0 hz0 hz1 hz2 rfl (by decide) (.slice (some ⟨w.heap.size, 0, none⟩) 0 0) 0 [] rfl hmade ⟨B, O, none⟩ c c (bC (bs.take c)) rfl hbl hsrc (bC_one _) hpos (by unfold maxLen; omega) (by omega) (by simp) _ rfl ?_; intro g cap w2 hown hg2 hat2 hlt2; have hown2 : w2.ownsRow w.heap.size 5 1 (.slice (some ⟨g, 0, none⟩) c cap) c (bC (bs.take c)) := (by simpa using hown); obtain ⟨hB2, hR2⟩ := HNE.out w2 hg2; have d0 := (hB2.cell (p := ⟨b, 0, none⟩) lt).trans c0; have df := hR2.f0; have dl := hR2.lt; have HO2 := Lib.hid hown2; have HB2 := Lib.hid hB2; have HN := Lib.hid (hR2.next (n := c) (A' := some ⟨B, O, none⟩) hn d0 (by rw [if_pos rfl])); clear hown hown2 hg2 hat2 hlt2 hB2 hR2 hsrc hmade c0 c1)
      go_ret
      refine FIN.out g cap w2 _ HO2.out HB2.out ?_
      have q := HN.out
      rwa [show bs.length - c = 0 from by omega, Nat.sub_self] at q
    · have hce' : ¬ (c : Int) = (n : Int) := by omega
      clear HA hav h hby hk hRa d0 hbb hA0 hlen HD0
      go_enter Tryd.func99, Tryd.ntmps99
      go_wp2_with (at_builtin; refine wpList_append_lies _ rfl (.tmp 23) (.tmp 29) _ rfl w.heap.size 5 i0 _ 1 1 Tryd.underlying28 hi0 hz0 hz1 hz2 rfl (by decide) (.slice (some ⟨w.heap.size, 0, none⟩) 0 0) 0 [] rfl hmade ⟨B, O, none⟩ n c (bC (bs.take n)) rfl hbl hsrc (bC_one _) hpos (by unfold maxLen; omega) (by omega) (by simp) _ rfl ?_; intro g cap w2 hown hg2 hat2 hlt2; have hown2 : w2.ownsRow w.heap.size 5 1 (.slice (some ⟨g, 0, none⟩) n cap) n (bC (bs.take n)) := (by simpa using hown); obtain ⟨hB2, hR2⟩ := HNE.out w2 hg2; have d0 := (hB2.cell (p := ⟨b, 0, none⟩) lt).trans c0; have df := hR2.f0; have dl := hR2.lt; have HO2 := Lib.hid hown2; have HB2 := Lib.hid hB2; have HN := Lib.hid (hR2.next (n := n) (A' := some ⟨B, O + n, none⟩) hn d0 (by rw [if_neg hce]; simp [at_add])); clear hown hown2 hg2 hat2 hlt2 hB2 hR2 hsrc hmade c0 c1)
      go_ret
      exact FIN.out g cap w2 _ HO2.out HB2.out HN.out
theorem rr_raw (b n : Nat) (s : RSt) (w : World) (h : Rd Q w b s) (hn : n ≤ 4611686018427387904) (hl : rLeft s ≤ 1000000) :
    Calls Tryd.prog 99 #[.pointer (some ⟨b, 0, none⟩), .int .i64 n] w fun e w' => TakeRes (rRaw n s).1 w w' e ∧ RdPost Q b (rRaw n s).2 w w' := by
  cases s with
  | none =>
    rw [rRaw_none]
    rcases Nat.eq_zero_or_pos n with h0 | h0
    · subst h0
      exact (rr_raw_none0 b w h).mono fun e w' ⟨h1, h2⟩ => ⟨h1 ▸ TakeRes.nil w w', h2⟩
    · exact (rr_raw_bad b n none w h h0 hn).mono fun e w' ⟨h1, h2⟩ => ⟨h1 ▸ TakeRes.nil w w', h2⟩
  | some bs =>
    rcases Nat.lt_or_ge bs.length n with h0 | h0
    · rw [rRaw_long h0]
      exact (rr_raw_bad b n (some bs) w h h0 hn).mono fun e w' ⟨h1, h2⟩ => ⟨h1 ▸ TakeRes.nil w w', h2⟩
    · rw [rRaw_yes h0]
      exact rr_raw_yes b n bs w h h0 hl
end Go.Proofs.YtdffldlcbihjmaaDoor

/- The reference's Reader: Num, Bytes. -/
namespace Go.Proofs.YtdffldlcbihjmaaDoor
open Go.RowKit

variable {Q : Nat → Prop}
theorem or_hiu (k m d : Nat) (hm : m < 2 ^ (7 * k)) (hb : m + d * 2 ^ (7 * k) < 18446744073709551616) : bits .or .u64 (m : Int) ((d * 2 ^ (7 * k) : Nat) : Int) = ((m + d * 2 ^ (7 * k) : Nat) : Int) := by
  generalize hP : 2 ^ (7 * k) = P at *
  show IntKind.u64.wrap ((BitVec.ofInt 64 (m : Int) ||| BitVec.ofInt 64 ((d * P : Nat) : Int)).toNat : Int) = _
  have e1 : (BitVec.ofInt 64 (m : Int)).toNat = m := by rw [BitVec.ofInt_natCast, BitVec.toNat_ofNat]; exact Nat.mod_eq_of_lt (by omega)
  have e2 : (BitVec.ofInt 64 ((d * P : Nat) : Int)).toNat = d * P := by rw [BitVec.ofInt_natCast, BitVec.toNat_ofNat]; exact Nat.mod_eq_of_lt (by omega)
  have e3 : m ||| d * P = m + d * P := by
    subst hP
    have := Nat.two_pow_add_eq_or_of_lt (i := 7 * k) (b := m) hm d
    rw [Nat.mul_comm d, Nat.or_comm, Nat.add_comm]
    exact this.symm
  rw [BitVec.toNat_or, e1, e2, e3, IntWalk.u64_in _ (by omega)]
theorem num_bdu {k m d : Nat} (hk : k ≤ 9) (hd : d < 128) (hd9 : k = 9 → d ≤ 1) (hm : m < 2 ^ (7 * k)) : m + d * 2 ^ (7 * k) < 18446744073709551616 := by
  rcases Nat.lt_or_ge k 9 with h | h
  · have := (num_bd h hd hm).2
    omega
  · obtain rfl : k = 9 := by omega
    have h1 := hd9 rfl
    have e : (2 : Nat) ^ (7 * 9) = 9223372036854775808 := by decide
    rw [e] at hm ⊢
    omega
set_option maxRecDepth 100000 in
set_option maxHeartbeats 8000000 in
theorem rr_num_yes (b : Nat) (bs : List Int) (w : World) (h : Rd Q w b (some bs)) (hl : bs.length ≤ 1000000) :
    Calls Tryd.prog 66 #[.pointer (some ⟨b, 0, none⟩)] w fun e w' => e = .returned (.int .i64 ((rNum (some bs)).1 : Nat)) ∧ RdPost Q b (rNum (some bs)).2 w w' := by
  have HH := Lib.hid h
  have hby := h.by_ bs rfl
  have HBY := Lib.hid hby
  have HNO : Hid (decN 0 0 bs = none → Ending.returned (Value.int .i64 0) = Ending.returned (.int .i64 ((rNum (some bs)).1 : Nat)) ∧ (rNum (some bs)).2 = none) := Lib.hid (fun hd => by rw [rNum_none_of hd]; exact ⟨rfl, rfl⟩)
  have hud : undef = Value.tuple #[] := rfl
  clear h hby
  go_enter Tryd.func66, Tryd.ntmps66
  go_wp2
  go_loopw [3, 4] (fun u i wr => ∃ (k m : Nat), k ≤ bs.length ∧ k ≤ 9 ∧ i = .int .i64 k ∧ u = .int .u64 m ∧ m < 2 ^ (7 * k) ∧ RdPost Q b (some (bs.drop k)) w wr ∧ decN 0 0 bs = decN k m (bs.drop k)) (fun _ i _ => 10 - (intOf i).toNat)
  case atStart => exact ⟨0, 0, Nat.zero_le _, by omega, rfl, rfl, by simp, ⟨HH.out, Only.refl _ _⟩, by simp⟩
  case round =>
    obtain ⟨k, m, hk, hk9, rfl, rfl, hm, hP, hd⟩ := hrel
    clear HH
    have HRAW := Lib.hid (rr_raw b 1 (some (bs.drop k)) wr hP.rd (by omega) (by show (bs.drop k).length ≤ _; rw [List.length_drop]; omega))
    have e1 : ((1 : Nat) : Int) = 1 := rfl
    rw [e1] at HRAW
    clear e1
    have lk10 : (k : Int) < 10 := by omega
    by_cases hlt : k < bs.length
    · rw [List.drop_eq_getElem_cons hlt] at HRAW
      rw [rRaw_yes (by simp; omega)] at HRAW
      rw [List.drop_eq_getElem_cons hlt, decN_cons] at hd
      have hx := HBY.out bs[k] (List.getElem_mem hlt)
      simp only [List.take_succ_cons, List.take_zero, List.drop_succ_cons, List.drop_zero] at HRAW
      generalize bs[k] = x at *
      have HD := Lib.hid hd
      have HPP := Lib.hid hP
      clear hd hP
      go_wp2_with fail
      refine HRAW.out.mono ?_; rintro e w1 ⟨⟨A1, cc1, rfl, y1, n1, l1, m1, f1⟩, hp1⟩
      obtain ⟨B, O, rfl, hB, hcells⟩ := y1 (by simp)
      have x0 := hcells 0 (.int .u8 x) (by simp [bC])
      rw [Nat.add_zero] at x0
      have HP1 : Hid (RdPost Q b (some (bs.drop (k + 1))) w w1) := Lib.hid ⟨hp1.rd, HPP.out.only.trans hp1.only⟩
      obtain ⟨A2, c2, d0, d1, _⟩ := hp1.rd.yes _ rfl
      have lt1 := hp1.rd.lt
      have HBAD := Lib.hid (rr_bad b (some (bs.drop (k + 1))) w1 hp1.rd)
      clear y1 n1 m1 f1 hp1 hcells HRAW HPP
      obtain ⟨d, hd1⟩ : ∃ d : Nat, x.toNat % 128 = d := ⟨_, rfl⟩
      have hdb : d < 128 := by omega
      have hxd : x % 128 = (d : Int) := by omega
      have t1 : bits .and .u8 x 127 = (d : Int) := by rw [and127b x hx.1 hx.2, hxd]
      have t6 : IntKind.u64.wrap (d : Int) = (d : Int) := IntWalk.u64_in _ (by omega)
      have t7 : IntKind.u64.wrap (7 * (k : Int)) = 7 * (k : Int) := IntWalk.u64_in _ (by omega)
      -- cases
      obtain ⟨y, hy⟩ : ∃ y : Nat, d * 2 ^ (7 * k) = y := ⟨_, rfl⟩
      obtain ⟨z, hz⟩ : ∃ z : Nat, m + y = z := ⟨_, rfl⟩
      have HOR : Hid ((k = 9 → d ≤ 1) → IntKind.u64.wrap ((d : Int) * 2 ^ (7 * k)) = (y : Int) ∧ bits .or .u64 (m : Int) (y : Int) = (z : Int) ∧ z < 18446744073709551616) := Lib.hid (fun h9 => by
        have hb := num_bdu hk9 hdb h9 hm
        have ho := or_hiu k m d hm hb
        rw [hy, hz] at hb ho
        refine ⟨?_, ho, hb⟩
        have e : (d : Int) * 2 ^ (7 * k) = ((d * 2 ^ (7 * k) : Nat) : Int) := by push_cast; rfl
        rw [e, hy]
        exact IntWalk.u64_in _ (by omega))
      have hd' := HD.out
      rw [hd1, hy, hz] at hd'
      have HNB : Hid (k < 9 → z < 2 ^ (7 * (k + 1)) ∧ z < 9223372036854775808) := Lib.hid (fun h9 => by
        have := num_bd h9 hdb hm
        rw [hy, hz] at this
        exact this)
      have HZ9 : Hid (k = 9 → d = 1 → 9223372036854775808 ≤ z) := Lib.hid (fun e1 e2 => by
        subst e1 e2
        have : (2 : Nat) ^ (7 * 9) = 9223372036854775808 := by decide
        rw [this] at hy
        omega)
      clear HD hm
      by_cases h9 : k = 9
      · rw [if_pos (Or.inl h9)] at hd'
        have HE := Lib.hid (HNO.out hd')
        clear hd' HNO HNB
        by_cases g1 : 127 < x
        · subst h9
          have t3 : decide (127 < x) = true := by simpa using g1
          clear g1 HOR HZ9 hy hz hxd hd1
          go_wp2_with (go_at_call 100; refine HBAD.out.mono ?_; rintro e w2 ⟨rfl, hp2⟩; have HP := Lib.hid hp2; clear hp2)
          go_ret
          exact ⟨HE.out.1, by rw [HE.out.2]; exact ⟨HP.out.rd, HP1.out.only.trans HP.out.only⟩⟩
        by_cases g2 : 1 < x
        · subst h9
          have t3 : decide (127 < x) = false := by simpa using g1
          have t4 : decide (1 < x) = true := by simpa using g2
          clear g1 g2 HOR HZ9 hy hz hxd hd1
          go_wp2_with (go_at_call 100; refine HBAD.out.mono ?_; rintro e w2 ⟨rfl, hp2⟩; have HP := Lib.hid hp2; clear hp2)
          go_ret
          exact ⟨HE.out.1, by rw [HE.out.2]; exact ⟨HP.out.rd, HP1.out.only.trans HP.out.only⟩⟩
        obtain ⟨t4, t5, hzb⟩ := HOR.out (fun _ => by omega)
        rcases (show x = 0 ∨ x = 1 from by omega) with rfl | rfl
        · have t2 : ((k : Int) == 9) = true := by simp; omega
          have t9 : decide (0 < (k : Int)) = true := by simp; omega
          have t9' : decide (0 < k) = true := by simp; omega
          clear g1 g2 HOR HZ9 hy hz hxd hd1 hx h9
          go_wp2_with (go_at_call 100; refine HBAD.out.mono ?_; rintro e w2 ⟨rfl, hp2⟩; have HP := Lib.hid hp2; clear hp2)
          go_ret
          exact ⟨HE.out.1, by rw [HE.out.2]; exact ⟨HP.out.rd, HP1.out.only.trans HP.out.only⟩⟩
        · have hzz := HZ9.out h9 (by rw [← hd1]; rfl)
          have hbig : (4611686018427387904 : Int) < (z : Int) := by omega
          have t2 : ((k : Int) == 9) = true := by simp; omega
          have t9 : decide (0 < (k : Int)) = true := by simp; omega
          have t9' : decide (0 < k) = true := by simp; omega
          clear g1 g2 HOR HZ9 hy hz hxd hd1 hx hzz h9
          go_wp2_with (go_at_call 100; refine HBAD.out.mono ?_; rintro e w2 ⟨rfl, hp2⟩; have HP := Lib.hid hp2; clear hp2)
          go_ret
          exact ⟨HE.out.1, by rw [HE.out.2]; exact ⟨HP.out.rd, HP1.out.only.trans HP.out.only⟩⟩
      have t2 : ((k : Int) == 9) = false := by simp; omega
      obtain ⟨t4, t5, hzb⟩ := HOR.out (fun e => absurd e h9)
      obtain ⟨hzb1, hzb2⟩ := HNB.out (by omega)
      clear HOR HNB HZ9
      by_cases h0 : x = 0 ∧ 0 < k
      · rw [if_pos (Or.inr h0)] at hd'
        have HE := Lib.hid (HNO.out hd')
        obtain ⟨rfl, hk0⟩ := h0
        have t3 : decide (0 < (k : Int)) = true := by simp; omega
        have t3' : decide (0 < k) = true := by simpa using hk0
        clear hd' HNO hy hz hxd hd1 hx
        go_wp2_with (go_at_call 100; refine HBAD.out.mono ?_; rintro e w2 ⟨rfl, hp2⟩; have HP := Lib.hid hp2; clear hp2)
        go_ret
        exact ⟨HE.out.1, by rw [HE.out.2]; exact ⟨HP.out.rd, HP1.out.only.trans HP.out.only⟩⟩
      rw [if_neg (by rintro (q | q); exact h9 q; exact h0 q)] at hd'
      by_cases g1 : 127 < x
      · rw [if_pos g1] at hd'
        have HD2 := Lib.hid hd'
        have t3 : decide (127 < x) = true := by simpa using g1
        have HZ1 := Lib.hid hzb1
        clear hd' HNO h0 hy hz hxd hd1 hzb1 g1 HBAD hud
        go_wp2
        refine ⟨⟨k + 1, z, by omega, by omega, by go_num, rfl, HZ1.out, HP1.out, HD2.out⟩, by simp [intOf]; omega⟩
      rw [if_neg g1] at hd'
      have t3 : decide (127 < x) = false := by simpa using g1
      by_cases hbig : 2 ^ 62 < z
      · rw [if_pos hbig] at hd'
        have HE := Lib.hid (HNO.out hd')
        have hbi : (4611686018427387904 : Int) < (z : Int) := by omega
        have hx0 : (x == 0) = false ∨ k = 0 := by
          rcases Nat.eq_zero_or_pos k with q | q
          · exact Or.inr q
          · exact Or.inl (by simp; omega)
        clear hd' HNO hbig
        rcases Nat.eq_zero_or_pos k with q | q
        · have t9 : decide (0 < (k : Int)) = false := by simp; omega
          have t9' : decide (0 < k) = false := by simp; omega
          clear h0 hy hz hxd hd1 hx0 g1 q
          go_wp2_with (go_at_call 100; refine HBAD.out.mono ?_; rintro e w2 ⟨rfl, hp2⟩; have HP := Lib.hid hp2; clear hp2)
          go_ret
          exact ⟨HE.out.1, by rw [HE.out.2]; exact ⟨HP.out.rd, HP1.out.only.trans HP.out.only⟩⟩
        · have t8 : (x == 0) = false := by simp; omega
          have t9 : decide (0 < (k : Int)) = true := by simp; omega
          have t9' : decide (0 < k) = true := by simpa using q
          clear h0 hy hz hxd hd1 hx0 g1
          go_wp2_with (go_at_call 100; refine HBAD.out.mono ?_; rintro e w2 ⟨rfl, hp2⟩; have HP := Lib.hid hp2; clear hp2)
          go_ret
          exact ⟨HE.out.1, by rw [HE.out.2]; exact ⟨HP.out.rd, HP1.out.only.trans HP.out.only⟩⟩
      · rw [if_neg hbig] at hd'
        have HE := Lib.hid (rNum_some_of hd')
        have hbi : ¬ (4611686018427387904 : Int) < (z : Int) := by omega
        have tz : IntKind.i64.wrap (z : Int) = (z : Int) := IntWalk.i64_in _ (by omega)
        clear hd' HNO hbig HBAD
        rcases Nat.eq_zero_or_pos k with q | q
        · have t9 : decide (0 < (k : Int)) = false := by simp; omega
          have t9' : decide (0 < k) = false := by simp; omega
          clear h0 hy hz hxd hd1 g1 q
          go_wp2
          go_ret
          rw [HE.out]
          exact ⟨rfl, HP1.out⟩
        · have t8 : (x == 0) = false := by simp; omega
          have t9 : decide (0 < (k : Int)) = true := by simp; omega
          have t9' : decide (0 < k) = true := by simpa using q
          clear h0 hy hz hxd hd1 g1
          go_wp2
          go_ret
          rw [HE.out]
          exact ⟨rfl, HP1.out⟩
    · obtain rfl : k = bs.length := by omega
      rw [List.drop_length] at hd HRAW
      have hd' : decN 0 0 bs = none := by rw [hd]; rfl
      have HE := Lib.hid (HNO.out hd')
      rw [rRaw_long (by simp)] at HRAW
      have HPP := Lib.hid hP
      clear hd hd' HNO hP
      go_wp2_with fail
      refine HRAW.out.mono ?_; rintro e w1 ⟨⟨A1, cc1, rfl, _⟩, hp1⟩
      obtain ⟨d0, d1⟩ := hp1.rd.no rfl
      have lt1 := hp1.rd.lt
      have HP1 := Lib.hid hp1
      clear hp1 HRAW
      go_wp2
      go_ret
      exact ⟨HE.out.1, by rw [HE.out.2]; exact ⟨HP1.out.rd, HPP.out.only.trans HP1.out.only⟩⟩
theorem rr_num (b : Nat) (s : RSt) (w : World) (h : Rd Q w b s) (hl : rLeft s ≤ 1000000) :
    Calls Tryd.prog 66 #[.pointer (some ⟨b, 0, none⟩)] w fun e w' => e = .returned (.int .i64 ((rNum s).1 : Nat)) ∧ RdPost Q b (rNum s).2 w w' := by
  cases s with
  | some bs => exact rr_num_yes b bs w h hl
  | none =>
    have HRAW := Lib.hid (rr_raw b 1 none w h (by omega) hl)
    have e1 : ((1 : Nat) : Int) = 1 := rfl
    rw [e1, rRaw_none] at HRAW
    clear h e1
    go_enter Tryd.func66, Tryd.ntmps66
    go_wp2
    refine wp_loop_rounds 2 ?_
    rw [rounds_succ]
    go_wp2_with fail
    refine HRAW.out.mono ?_; rintro e w1 ⟨⟨A1, cc1, rfl, _⟩, hp1⟩
    obtain ⟨d0, d1⟩ := hp1.rd.no rfl
    have lt1 := hp1.rd.lt
    have HP1 := Lib.hid hp1
    clear hp1 HRAW
    go_wp2
    go_ret
    exact ⟨rfl, HP1.out⟩
set_option maxHeartbeats 2000000 in
theorem rr_bytes (b : Nat) (s : RSt) (w : World) (h : Rd Q w b s) (hl : rLeft s ≤ 1000000) :
    Calls Tryd.prog 102 #[.pointer (some ⟨b, 0, none⟩)] w fun e w' => TakeRes (rBytes s).1 w w' e ∧ RdPost Q b (rBytes s).2 w w' := by
  have HN := Lib.hid (rr_num b s w h hl)
  have HB : Hid ((rNum s).1 ≤ 4611686018427387904 ∧ rLeft (rNum s).2 ≤ 1000000) := Lib.hid ⟨by have := rNum_le h.by_; simpa using this, Nat.le_trans (rNum_left s) hl⟩
  have lt := h.lt
  clear h hl
  cases hs : (rNum s).2 with
  | none =>
    rw [hs] at HN HB
    have HS : Hid (rBytes s = ([], none)) := Lib.hid (by unfold rBytes; rw [hs]; rfl)
    clear hs
    go_enter Tryd.func102, Tryd.ntmps102
    go_wp2_with fail
    refine HN.out.mono ?_; rintro e w1 ⟨rfl, hp⟩
    obtain ⟨d0, d1⟩ := hp.rd.no rfl
    have lt1 := hp.rd.lt
    have HP := Lib.hid hp
    clear hp HN
    go_wp2
    go_ret
    rw [HS.out]
    exact ⟨TakeRes.nil _ _, HP.out⟩
  | some bs =>
    rw [hs] at HN HB
    have HS : Hid (rBytes s = rRaw (rNum s).1 (some bs)) := Lib.hid (by unfold rBytes; rw [hs])
    clear hs
    go_enter Tryd.func102, Tryd.ntmps102
    go_wp2_with fail
    refine HN.out.mono ?_; rintro e w1 ⟨rfl, hp⟩
    have HR := Lib.hid (rr_raw b (rNum s).1 (some bs) w1 hp.rd HB.out.1 HB.out.2)
    obtain ⟨A, c, d0, d1, _⟩ := hp.rd.yes _ rfl
    have lt1 := hp.rd.lt
    have HP := Lib.hid hp
    clear hp HN
    go_wp2_with fail
    refine HR.out.mono ?_; rintro e w2 ⟨ht, hp2⟩
    have HT := Lib.hid (ht.first HP.out.only.size)
    have HP2 : Hid (RdPost Q b (rRaw (rNum s).1 (some bs)).2 w w2) := Lib.hid ⟨hp2.rd, HP.out.only.trans hp2.only⟩
    obtain ⟨A2, c2, he, _⟩ := ht
    subst he
    clear hp2 HR HP
    go_wp2
    go_ret
    rw [HS.out]
    exact ⟨HT.out, HP2.out⟩
end Go.Proofs.YtdffldlcbihjmaaDoor

/- The reference's Decode of a record (written by gen/refdec.py). -/
namespace Go.Proofs.YtdffldlcbihjmaaDoor
open Go.RowKit

/-- What is read, one number at a time. -/
theorem pR_each (l : List Int) : pR (some l) = ⟨⟨((rNum (some l)).1 : Nat), ((rNum (rNum (some l)).2).1 : Nat), (rBytes (rNum (rNum (some l)).2).2).1, ((rNum (rBytes (rNum (rNum (some l)).2).2).2).1 : Nat), ((rNum (rNum (rBytes (rNum (rNum (some l)).2).2).2).2).1 : Nat), ((rNum (some l)).1 : Nat),
    (rBytes (rNum (rNum (rNum (rNum (rBytes (rNum (rNum (some l)).2).2).2).2).2).2).2).1, (rNum (rNum (rNum (rBytes (rNum (rNum (some l)).2).2).2).2).2).1 == 1, ((rNum (rNum (rNum (rNum (rBytes (rNum (rNum (some l)).2).2).2).2).2).2).1 : Nat)⟩, (rNum (rNum (rNum (rBytes (rNum (rNum (some l)).2).2).2).2).2).1, (rBytes (rNum (rNum (rNum (rNum (rBytes (rNum (rNum (some l)).2).2).2).2).2).2).2).2⟩ := rfl
set_option maxRecDepth 100000 in
set_option maxHeartbeats 8000000 in
theorem ref_dec (A : Option Addr) (l : List Int) (c : Nat) (w : World) (hby : ByL w A l) (hb : isBy l) (hn : A = none → l.length = 0 ∧ c = 0) (hl : l.length ≤ 100000) (hc : l.length ≤ c) (hcm : c ≤ maxLen)
    (hIs : ∀ (o s : Int) (key : ByteArray) (ml ct vo : Int) (A : Option Addr) (n c : Nat) (gone : Bool) (tt : Int) (w : World), Calls Tryd.prog 46 #[recV o s key ml ct vo A n c gone tt] w fun e w' => e = .returned (.bool (okN o s key.size ml ct vo n gone tt)) ∧ Below w.heap.size w w') :
    Calls Tryd.prog 101 #[.slice A l.length c] w fun e w' => DecRes l w w' e ∧ Below w.heap.size w w' := by
  have HZ : Hid (Below w.heap.size w ((w.alloc (recO 0 0 ⟨#[]⟩ 0 0 0 none 0 0 false 0)).alloc (.cells #[.slice A l.length c, .bool false] 118))) := Lib.hid (by (repeat' (first | (with_reducible exact Below.refl _ _) | (with_reducible assumption) | (with_reducible refine Below.trans ?_ (Below.mono (by with_reducible assumption) ?_)) | (with_reducible refine Below.alloc ?_ ?_ _) | (with_reducible refine Below.setCell ?_ ?_ _) | (with_reducible refine below_drewN ?_ _) | (with_reducible refine Below.drew ?_) | go_size)))
  have HRB : Hid (XB ((w.alloc (recO 0 0 ⟨#[]⟩ 0 0 0 none 0 0 false 0)).alloc (.cells #[.slice A l.length c, .bool false] 118)) w.heap.size zeroR) := Lib.hid ((XB.new w _ _).below ((Below.refl _ _).alloc (Nat.le_refl _) _))
  have HR0 : Hid (Rd (fun i => i < w.heap.size) ((w.alloc (recO 0 0 ⟨#[]⟩ 0 0 0 none 0 0 false 0)).alloc (.cells #[.slice A l.length c, .bool false] 118)) (w.heap.size + 1) (some l)) := Lib.hid
    ⟨by omega, by simp, by simp, by simp, (fun e => by cases e), fun bs e => by
      injection e with e
      subst e
      exact ⟨A, c, by simp [World.cell?_alloc_new, go_sem], by simp [go_sem], hc, hcm, hby.below HZ.out, (fun ad had hp => by
        obtain ⟨B, O, e1, e2, _⟩ := hby hp
        rw [had] at e1
        injection e1 with e1
        subst e1
        exact ⟨e2, rfl⟩), hb, hn⟩⟩
  have HPR := Lib.hid (pR_each l)
  have HIS := Lib.hid hIs
  have hz2 : ((w.alloc (recO 0 0 ⟨#[]⟩ 0 0 0 none 0 0 false 0)).alloc (.cells #[.slice A l.length c, .bool false] 118)).heap.size = w.heap.size + 2 := by simp
  have hl0 : rLeft (some l) ≤ 100000 := hl
  clear hby hb hn hl hc hcm hIs
  go_enter Tryd.func101, Tryd.ntmps101
  go_wp2_with fail
  generalize (w.alloc (recO 0 0 ⟨#[]⟩ 0 0 0 none 0 0 false 0)).alloc (.cells #[.slice A l.length c, .bool false] 118) = Z at *
  refine (rr_num (w.heap.size + 1) (some l) Z HR0.out (by omega)).mono ?_; rintro e W1 ⟨rfl, p1⟩
  have hl1 : rLeft (rNum (some l)).2 ≤ 100000 := Nat.le_trans (rNum_left (some l)) hl0
  have HRB1 := Lib.hid (HRB.out.only p1.only (by omega))
  have HB1 := Lib.hid (HZ.out.trans (p1.only.below (by omega) HZ.out.size))
  have HR1 := Lib.hid p1.rd
  have z1 := p1.only.size
  clear p1 HR0 HRB HZ
  go_wp2_with fail
  refine (rr_num (w.heap.size + 1) _ W1 HR1.out (by omega)).mono ?_; rintro e W2 ⟨rfl, p2⟩
  have hl2 : rLeft (rNum (rNum (some l)).2).2 ≤ 100000 := Nat.le_trans (rNum_left _) hl1
  have HRB2 := Lib.hid (HRB1.out.only p2.only (by omega))
  have HB2 := Lib.hid (HB1.out.trans (p2.only.below (by omega) HB1.out.size))
  have HR2 := Lib.hid p2.rd
  have z2 := p2.only.size
  clear p2 HR1 HRB1 HB1
  go_wp2_with fail
  generalize ((rNum (some l)).1 : Nat) = o at *
  generalize ((rNum (rNum (some l)).2).1 : Nat) = s at *
  generalize (rNum (rNum (some l)).2).2 = st2 at *
  have HBY2 := Lib.hid (rBytes_by HR2.out.by_).2
  have hl3 : rLeft (rBytes st2).2 ≤ 100000 := Nat.le_trans (rBytes_left st2).1 hl2
  refine (rr_bytes (w.heap.size + 1) st2 W2 HR2.out (by omega)).mono ?_; rintro e W3 ⟨ht, p3⟩
  obtain ⟨A3, c3, rfl, y3, n3, _, _, f3⟩ := ht
  have hcv := run_str W3 A3 (rBytes st2).1 c3 y3 HBY2.out (fun e => (n3 e).1)
  have hky : Hid (kL (strB (rBytes st2).1) = (rBytes st2).1) := Lib.hid (kL_str HBY2.out)
  have HRB3 := Lib.hid (HRB2.out.only p3.only (by omega))
  have HB3 := Lib.hid (HB2.out.trans (p3.only.below (by omega) HB2.out.size))
  have HR3 := Lib.hid p3.rd
  have z3 := p3.only.size
  clear p3 HR2 HRB2 HB2 y3 n3 f3
  generalize (rBytes st2).2 = st3 at *
  have HSTR : Hid (strB (rBytes st2).1 = strB (rBytes st2).1) := Lib.hid rfl
  generalize strB (rBytes st2).1 = KB at *
  go_wp2_with fail
  have k4 : Below W3.heap.size W3 (W3.alloc (recO o s KB 0 0 0 none 0 0 false 0)).drew := ((Below.refl _ _).alloc (Nat.le_refl _) _).trans ⟨rfl, rfl, rfl, Nat.le_refl _, fun _ _ => rfl⟩
  have X4 : XB (W3.alloc (recO o s KB 0 0 0 none 0 0 false 0)).drew W3.heap.size [.int .i64 o, .int .i64 s, .string KB, .int .i64 0, .int .i64 0, .int .i64 0, .slice none 0 0, .bool false, .int .i64 0] := (XB.new W3 _ _).below ⟨rfl, rfl, rfl, Nat.le_refl _, fun _ _ => rfl⟩
  have z4 : (W3.alloc (recO o s KB 0 0 0 none 0 0 false 0)).drew.heap.size = W3.heap.size + 1 := by show (W3.alloc _).heap.size = _; simp
  have x0 : (W3.alloc (recO o s KB 0 0 0 none 0 0 false 0)).cell? ⟨W3.heap.size, 0, none⟩ = some (.int .i64 o) := (XB.new W3 _ _).c 0 _ rfl
  have HX4 := Lib.hid X4
  have HR4 := Lib.hid (HR3.out.below k4)
  have HRB4 := Lib.hid (HRB3.out.below k4)
  have HB4 := Lib.hid (HB3.out.trans (k4.mono HB3.out.size))
  clear X4 HR3 HRB3 HB3 hcv k4
  refine wp_region_held_drew (S := (fun w' => w'.cell? ⟨W3.heap.size, 0, none⟩ = some (.int .i64 o))) (by kernel_rfl) ?_ (fun hHeld => ?_)
  · exact x0
  refine wpAnyH_take (i := 0) (v := ?_) rfl (by kernel_rfl) (by kernel_rfl) (by kernel_rfl) (fun _ _ _ h => h) (Or.inl ⟨by rfl, ?_⟩) (by assumption) ?_
  rotate_left
  · intro w' hSw; (try dsimp only at hSw); go_simp; (try with_reducible rfl)
  (try simp only [Act.put, List.setIfInBounds_toArray, List.set_cons_zero, List.set_cons_succ, List.getElem_toArray, List.getElem_cons_succ, List.getElem_cons_zero])
  refine wpAnyH_take (i := 2) (v := ?_) rfl (by kernel_rfl) (by kernel_rfl) (by kernel_rfl) (fun _ _ _ h => h) (Or.inl ⟨by rfl, ?_⟩) (by assumption) ?_
  rotate_left
  · intro w' hSw; (try dsimp only at hSw); go_simp; (try with_reducible rfl)
  (try simp only [Act.put, List.setIfInBounds_toArray, List.set_cons_zero, List.set_cons_succ, List.getElem_toArray, List.getElem_cons_succ, List.getElem_cons_zero])
  refine wpAnyH_take (i := 5) (v := ?_) rfl (by kernel_rfl) (by kernel_rfl) (by kernel_rfl) (fun _ _ _ h => h) (Or.inl ⟨by rfl, ?_⟩) (by assumption) ?_
  rotate_left
  · intro w' hSw; (try dsimp only at hSw); go_simp; (try with_reducible rfl)
  (try simp only [Act.put, List.setIfInBounds_toArray, List.set_cons_zero, List.set_cons_succ, List.getElem_toArray, List.getElem_cons_succ, List.getElem_cons_zero])
  refine wpAnyH_take (i := 6) (v := ?_) rfl (by kernel_rfl) (by kernel_rfl) (by kernel_rfl) (fun _ _ _ h => h) (Or.inl ⟨by rfl, ?_⟩) (by assumption) ?_
  rotate_left
  · intro w' hSw; (try dsimp only at hSw); go_simp; (try with_reducible rfl)
  (try simp only [Act.put, List.setIfInBounds_toArray, List.set_cons_zero, List.set_cons_succ, List.getElem_toArray, List.getElem_cons_succ, List.getElem_cons_zero])
  refine wpAnyH_ready (rs := [1]) (by kernel_rfl) (by simp) ?_
  refine AllReadyH.cons rfl (fun K hK => ?_) AllReadyH.nil
  go_simp
  refine (rr_num (w.heap.size + 1) st3 _ HR4.out (by omega)).mono ?_; rintro e W5 ⟨rfl, p5⟩
  have X5 := HX4.out.only p5.only (by omega)
  have HX5 := Lib.hid X5
  have HR5 := Lib.hid p5.rd
  have HRB5 := Lib.hid (HRB4.out.only p5.only (by omega))
  have HB5 := Lib.hid (HB4.out.trans (p5.only.below (by omega) HB4.out.size))
  have z5 := p5.only.size
  (try dsimp only)
  refine hK.out _ _ ?_ (fun hHeld => ?_)
  · exact X5.c 0 _ rfl
  clear hK K
  (try simp only [Act.put, List.setIfInBounds_toArray, List.set_cons_zero, List.set_cons_succ, List.getElem_toArray, List.getElem_cons_succ, List.getElem_cons_zero])
  refine wpAnyH_ready (rs := [3]) (by kernel_rfl) (by simp) ?_
  refine AllReadyH.cons rfl (fun K hK => ?_) AllReadyH.nil
  go_simp
  have hl4 : rLeft (rNum st3).2 ≤ 100000 := Nat.le_trans (rNum_left _) hl3
  refine (rr_num (w.heap.size + 1) _ _ HR5.out (by omega)).mono ?_; rintro e W6 ⟨rfl, p6⟩
  have X6 := HX5.out.only p6.only (by omega)
  have HX6 := Lib.hid X6
  have HR6 := Lib.hid p6.rd
  have HRB6 := Lib.hid (HRB5.out.only p6.only (by omega))
  have HB6 := Lib.hid (HB5.out.trans (p6.only.below (by omega) HB5.out.size))
  have z6 := p6.only.size
  (try dsimp only)
  refine hK.out _ _ ?_ (fun hHeld => ?_)
  · exact X6.c 0 _ rfl
  clear hK K
  (try simp only [Act.put, List.setIfInBounds_toArray, List.set_cons_zero, List.set_cons_succ, List.getElem_toArray, List.getElem_cons_succ, List.getElem_cons_zero])
  refine wpAnyH_take (i := 4) (v := ?_) rfl (by kernel_rfl) (by kernel_rfl) (by kernel_rfl) (fun _ _ _ h => h) (Or.inl ⟨by rfl, ?_⟩) (by assumption) ?_
  rotate_left
  · intro w' hSw; (try dsimp only at hSw); go_simp; (try with_reducible rfl)
  (try simp only [Act.put, List.setIfInBounds_toArray, List.set_cons_zero, List.set_cons_succ, List.getElem_toArray, List.getElem_cons_succ, List.getElem_cons_zero])
  refine wpAnyH_take (i := 7) (v := ?_) rfl (by kernel_rfl) (by kernel_rfl) (by kernel_rfl) (fun _ _ _ h => h) (Or.inl ⟨by rfl, ?_⟩) (by assumption) ?_
  rotate_left
  · intro w' hSw; (try dsimp only at hSw); go_simp; (try with_reducible rfl)
  (try simp only [Act.put, List.setIfInBounds_toArray, List.set_cons_zero, List.set_cons_succ, List.getElem_toArray, List.getElem_cons_succ, List.getElem_cons_zero])
  refine wpAnyH_take (i := 8) (v := ?_) rfl (by kernel_rfl) (by kernel_rfl) (by kernel_rfl) (fun _ _ _ h => h) (Or.inl ⟨by rfl, ?_⟩) (by assumption) ?_
  rotate_left
  · intro w' hSw; (try dsimp only at hSw); go_simp; (try with_reducible rfl)
  (try simp only [Act.put, List.setIfInBounds_toArray, List.set_cons_zero, List.set_cons_succ, List.getElem_toArray, List.getElem_cons_succ, List.getElem_cons_zero])
  generalize ((rNum st3).1 : Nat) = ml at *
  generalize ((rNum (rNum st3).2).1 : Nat) = ct at *
  have hl5 : rLeft (rNum (rNum st3).2).2 ≤ 100000 := Nat.le_trans (rNum_left _) hl4
  generalize (rNum (rNum st3).2).2 = st5 at *
  clear hHeld
  have x0 := X6.c 0 _ rfl
  have x3 := X6.c 3 _ rfl
  have x4 := X6.c 4 _ rfl
  have x5 := X6.c 5 _ rfl
  have x6 := X6.c 6 _ rfl
  have x7 := X6.c 7 _ rfl
  have x8 := X6.c 8 _ rfl
  have xf3 := X6.fz 3
  have xf4 := X6.fz 4
  have xf5 := X6.fz 5
  have xf6 := X6.fz 6
  have xf7 := X6.fz 7
  have xf8 := X6.fz 8
  have xl := X6.lt
  refine wpAnyH_ready (rs := [9]) (by kernel_rfl) (by simp) ?_
  refine AllReadyH.cons rfl (fun K hK => ?_) AllReadyH.nil
  go_simp
  refine hK.out _ _ ?_ (fun hHeld => ?_)
  · exact ((((((X6.set 3 (by simp) (.int .i64 ml)).set 4 (by simp) (.int .i64 ct)).set 5 (by simp) (.int .i64 o)).set 6 (by simp) (.slice none 0 0)).set 7 (by simp) (.bool false)).set 8 (by simp) (.int .i64 0)).c 0 _ rfl
  clear hK K hHeld
  (try simp only [Act.put, List.setIfInBounds_toArray, List.set_cons_zero, List.set_cons_succ, List.getElem_toArray, List.getElem_cons_succ, List.getElem_cons_zero])
  refine wpAnyH_done (by kernel_rfl) ?_ _
  clear x0 x3 x4 x5 x6 x7 x8 xf3 xf4 xf5 xf6 xf7 xf8 xl X6 X5
  go_wp2_with fail
  have X7 := ((((((HX6.out.set 3 (by simp) (.int .i64 ml)).set 4 (by simp) (.int .i64 ct)).set 5 (by simp) (.int .i64 o)).set 6 (by simp) (.slice none 0 0)).set 7 (by simp) (.bool false)).set 8 (by simp) (.int .i64 0))
  have RB7 := ((((((HRB6.out.other (p := ⟨W3.heap.size, 3, none⟩) (show W3.heap.size ≠ w.heap.size by omega) (.int .i64 ml)).other (p := ⟨W3.heap.size, 4, none⟩) (show W3.heap.size ≠ w.heap.size by omega) (.int .i64 ct)).other (p := ⟨W3.heap.size, 5, none⟩) (show W3.heap.size ≠ w.heap.size by omega) (.int .i64 o)).other (p := ⟨W3.heap.size, 6, none⟩) (show W3.heap.size ≠ w.heap.size by omega) (.slice none 0 0)).other (p := ⟨W3.heap.size, 7, none⟩) (show W3.heap.size ≠ w.heap.size by omega) (.bool false)).other (p := ⟨W3.heap.size, 8, none⟩) (show W3.heap.size ≠ w.heap.size by omega) (.int .i64 0))
  have hO7 : Only W3.heap.size W6 ((((((W6.setCell ⟨W3.heap.size, 3, none⟩ (.int .i64 ml)).setCell ⟨W3.heap.size, 4, none⟩ (.int .i64 ct)).setCell ⟨W3.heap.size, 5, none⟩ (.int .i64 o)).setCell ⟨W3.heap.size, 6, none⟩ (.slice none 0 0)).setCell ⟨W3.heap.size, 7, none⟩ (.bool false)).setCell ⟨W3.heap.size, 8, none⟩ (.int .i64 0)) := (((((((Only.refl W3.heap.size W6).setB (o := 3) (.int .i64 ml)).setB (o := 4) (.int .i64 ct)).setB (o := 5) (.int .i64 o)).setB (o := 6) (.slice none 0 0)).setB (o := 7) (.bool false)).setB (o := 8) (.int .i64 0))
  have R7 := HR6.out.but (S := fun i => i = W3.heap.size) (But.of_only hO7 rfl) (show w.heap.size + 1 ≠ W3.heap.size by omega) (fun i e => by subst e; show ¬ W3.heap.size < w.heap.size; omega)
  have B7 := HB6.out.trans (hO7.below (B := w.heap.size) (by omega) HB6.out.size)
  have z7 := hO7.size
  generalize ((((((W6.setCell ⟨W3.heap.size, 3, none⟩ (.int .i64 ml)).setCell ⟨W3.heap.size, 4, none⟩ (.int .i64 ct)).setCell ⟨W3.heap.size, 5, none⟩ (.int .i64 o)).setCell ⟨W3.heap.size, 6, none⟩ (.slice none 0 0)).setCell ⟨W3.heap.size, 7, none⟩ (.bool false)).setCell ⟨W3.heap.size, 8, none⟩ (.int .i64 0)) = W7 at *
  have HX7 := Lib.hid X7
  have HR7 := Lib.hid R7
  have HRB7 := Lib.hid RB7
  have HB7 := Lib.hid B7
  clear X7 R7 RB7 B7 hO7 HX6 HR6 HRB6 HB6
  refine (rr_num (w.heap.size + 1) st5 W7 HR7.out (by omega)).mono ?_; rintro e W8 ⟨rfl, p8⟩
  have HX8 := Lib.hid (HX7.out.only p8.only (by omega))
  have HR8 := Lib.hid p8.rd
  have HRB8 := Lib.hid (HRB7.out.only p8.only (by omega))
  have HB8 := Lib.hid (HB7.out.trans (p8.only.below (by omega) HB7.out.size))
  have z8 := p8.only.size
  clear p8 HX7 HR7 HRB7 HB7
  have hl8 : rLeft (rNum st5).2 ≤ 100000 := Nat.le_trans (rNum_left _) hl5
  generalize ((rNum st5).1 : Nat) = gn at *
  generalize (rNum st5).2 = st8 at *
  have X8 := HX8.out
  have x7 := X8.c 7 _ rfl
  have xf7 := X8.fz 7
  have xl := X8.lt
  clear X8
  go_wp2_with fail
  clear xl x7 xf7
  have X9 := (HX8.out.set 7 (by simp) (.bool ((gn : Int) == 1)))
  have RB9 := (HRB8.out.other (p := ⟨W3.heap.size, 7, none⟩) (show W3.heap.size ≠ w.heap.size by omega) (.bool ((gn : Int) == 1)))
  have hO9 : Only W3.heap.size W8 (W8.setCell ⟨W3.heap.size, 7, none⟩ (.bool ((gn : Int) == 1))) := ((Only.refl W3.heap.size W8).setB (o := 7) (.bool ((gn : Int) == 1)))
  have R9 := HR8.out.but (S := fun i => i = W3.heap.size) (But.of_only hO9 rfl) (show w.heap.size + 1 ≠ W3.heap.size by omega) (fun i e => by subst e; show ¬ W3.heap.size < w.heap.size; omega)
  have B9 := HB8.out.trans (hO9.below (B := w.heap.size) (by omega) HB8.out.size)
  have z9 := hO9.size
  generalize (W8.setCell ⟨W3.heap.size, 7, none⟩ (.bool ((gn : Int) == 1))) = W9 at *
  have HX9 := Lib.hid X9
  have HR9 := Lib.hid R9
  have HRB9 := Lib.hid RB9
  have HB9 := Lib.hid B9
  clear X9 R9 RB9 B9 hO9 HX8 HR8 HRB8 HB8
  refine (rr_num (w.heap.size + 1) st8 W9 HR9.out (by omega)).mono ?_; rintro e W10 ⟨rfl, p10⟩
  have HX10 := Lib.hid (HX9.out.only p10.only (by omega))
  have HR10 := Lib.hid p10.rd
  have HRB10 := Lib.hid (HRB9.out.only p10.only (by omega))
  have HB10 := Lib.hid (HB9.out.trans (p10.only.below (by omega) HB9.out.size))
  have z10 := p10.only.size
  clear p10 HX9 HR9 HRB9 HB9
  have hl10 : rLeft (rNum st8).2 ≤ 100000 := Nat.le_trans (rNum_left _) hl8
  generalize ((rNum st8).1 : Nat) = tt at *
  generalize (rNum st8).2 = st10 at *
  have X10 := HX10.out
  have x8 := X10.c 8 _ rfl
  have xf8 := X10.fz 8
  have xl := X10.lt
  clear X10
  go_wp2_with fail
  clear xl x8 xf8
  have X11 := (HX10.out.set 8 (by simp) (.int .i64 tt))
  have RB11 := (HRB10.out.other (p := ⟨W3.heap.size, 8, none⟩) (show W3.heap.size ≠ w.heap.size by omega) (.int .i64 tt))
  have hO11 : Only W3.heap.size W10 (W10.setCell ⟨W3.heap.size, 8, none⟩ (.int .i64 tt)) := ((Only.refl W3.heap.size W10).setB (o := 8) (.int .i64 tt))
  have R11 := HR10.out.but (S := fun i => i = W3.heap.size) (But.of_only hO11 rfl) (show w.heap.size + 1 ≠ W3.heap.size by omega) (fun i e => by subst e; show ¬ W3.heap.size < w.heap.size; omega)
  have B11 := HB10.out.trans (hO11.below (B := w.heap.size) (by omega) HB10.out.size)
  have z11 := hO11.size
  generalize (W10.setCell ⟨W3.heap.size, 8, none⟩ (.int .i64 tt)) = W11 at *
  have HX11 := Lib.hid X11
  have HR11 := Lib.hid R11
  have HRB11 := Lib.hid RB11
  have HB11 := Lib.hid B11
  clear X11 R11 RB11 B11 hO11 HX10 HR10 HRB10 HB10
  have HBV := Lib.hid (rBytes_by HR11.out.by_).2
  refine (rr_bytes (w.heap.size + 1) st10 W11 HR11.out (by omega)).mono ?_; rintro e W12 ⟨ht, p12⟩
  obtain ⟨A20, c20, rfl, y12, n12, _, _, f12⟩ := ht
  have HX12 := Lib.hid (HX11.out.only p12.only (by omega))
  have HR12 := Lib.hid p12.rd
  have HRB12 := Lib.hid (HRB11.out.only p12.only (by omega))
  have HB12 := Lib.hid (HB11.out.trans (p12.only.below (by omega) HB11.out.size))
  have z12 := p12.only.size
  have HV12 := Lib.hid (And.intro y12 (And.intro n12 f12))
  clear p12 HX11 HR11 HRB11 HB11 y12 n12 f12
  generalize (rBytes st10).2 = st20 at *
  generalize (rBytes st10).1 = val at *
  have X12 := HX12.out
  have x6 := X12.c 6 _ rfl
  have xf6 := X12.fz 6
  have xl := X12.lt
  clear X12
  go_wp2_with fail
  clear xl x6 xf6
  have X13 := (HX12.out.set 6 (by simp) (.slice A20 val.length c20))
  have RB13 := (HRB12.out.other (p := ⟨W3.heap.size, 6, none⟩) (show W3.heap.size ≠ w.heap.size by omega) (.slice A20 val.length c20))
  have hO13 : Only W3.heap.size W12 (W12.setCell ⟨W3.heap.size, 6, none⟩ (.slice A20 val.length c20)) := ((Only.refl W3.heap.size W12).setB (o := 6) (.slice A20 val.length c20))
  have R13 := HR12.out.but (S := fun i => i = W3.heap.size) (But.of_only hO13 rfl) (show w.heap.size + 1 ≠ W3.heap.size by omega) (fun i e => by subst e; show ¬ W3.heap.size < w.heap.size; omega)
  have B13 := HB12.out.trans (hO13.below (B := w.heap.size) (by omega) HB12.out.size)
  have z13 := hO13.size
  have V13 := HV12.out.1.only hO13 (fun ad had => by have := (HV12.out.2.2 ad had).1; omega)
  generalize (W12.setCell ⟨W3.heap.size, 6, none⟩ (.slice A20 val.length c20)) = W13 at *
  have HX13 := Lib.hid X13
  have HR13 := Lib.hid R13
  have HRB13 := Lib.hid RB13
  have HB13 := Lib.hid B13
  clear X13 R13 RB13 B13 hO13 HX12 HR12 HRB12 HB12
  have HW20 := Lib.hid (rr_whole (w.heap.size + 1) st20 W13 HR13.out)
  have HV20 : Hid (ByL W13 A20 val ∧ (A20 = none → val.length = 0) ∧ ∀ ad, A20 = some ad → w.heap.size ≤ ad.block) := Lib.hid ⟨V13, fun e => (HV12.out.2.1 e).1, fun ad had => by have := (HV12.out.2.2 ad had).1; omega⟩
  have HAD : Hid (∀ ad, A20 = some ad → w.heap.size + 1 ≤ ad.block) := Lib.hid (fun ad had => by have := (HV12.out.2.2 ad had).1; omega)
  have X20 := HX13.out
  have RB20 := HRB13.out
  have HX20 := Lib.hid X20
  have HRB20 := Lib.hid RB20
  have HB20 := Lib.hid HB13.out
  clear HX13 HRB13 HB13 HR13 V13 HV12
  generalize W13 = W20 at *
  have r0 := RB20.c 0 _ rfl
  have r1 := RB20.c 1 _ rfl
  have r2 := RB20.c 2 _ rfl
  have r3 := RB20.c 3 _ rfl
  have r4 := RB20.c 4 _ rfl
  have r5 := RB20.c 5 _ rfl
  have r6 := RB20.c 6 _ rfl
  have r7 := RB20.c 7 _ rfl
  have r8 := RB20.c 8 _ rfl
  have rf := RB20.fz
  have rl := RB20.lt
  have x0 := X20.c 0 _ rfl
  have x1 := X20.c 1 _ rfl
  have x2 := X20.c 2 _ rfl
  have x3 := X20.c 3 _ rfl
  have x4 := X20.c 4 _ rfl
  have x5 := X20.c 5 _ rfl
  have x6 := X20.c 6 _ rfl
  have x7 := X20.c 7 _ rfl
  have x8 := X20.c 8 _ rfl
  have xl := X20.lt
  clear X20 RB20
  by_cases hwh : st20 = some []
  rotate_left
  · have t0 : decide (st20 = some []) = false := by simpa using hwh
    rw [t0] at HW20
    have HD : Hid (decR l = none) := Lib.hid (by unfold decR; rw [HPR.out]; rw [if_neg (fun h => hwh h.1)])
    clear t0
    go_wp2_with (go_at_call 68; refine HW20.out.mono ?_; rintro e W21 ⟨rfl, rfl⟩)
    have RBf := (((((((((HRB20.out.set 0 (by simp [zeroR]) (.int .i64 0)).set 1 (by simp [zeroR]) (.int .i64 0)).set 2 (by simp [zeroR]) (.string ⟨#[]⟩)).set 3 (by simp [zeroR]) (.int .i64 0)).set 4 (by simp [zeroR]) (.int .i64 0)).set 5 (by simp [zeroR]) (.int .i64 0)).set 6 (by simp [zeroR]) (.slice none 0 0)).set 7 (by simp [zeroR]) (.bool false)).set 8 (by simp [zeroR]) (.int .i64 0))
    have z0 := RBf.c 0 _ rfl
    have z1 := RBf.c 1 _ rfl
    have z2 := RBf.c 2 _ rfl
    have z3 := RBf.c 3 _ rfl
    have z4 := RBf.c 4 _ rfl
    have z5 := RBf.c 5 _ rfl
    have z6 := RBf.c 6 _ rfl
    have z7 := RBf.c 7 _ rfl
    have z8 := RBf.c 8 _ rfl
    have HF : Hid (Below w.heap.size w _) := Lib.hid ((((((((((HB20.out.setCell (p := ⟨w.heap.size, 0, none⟩) (Nat.le_refl _) (.int .i64 0)).setCell (p := ⟨w.heap.size, 1, none⟩) (Nat.le_refl _) (.int .i64 0)).setCell (p := ⟨w.heap.size, 2, none⟩) (Nat.le_refl _) (.string ⟨#[]⟩)).setCell (p := ⟨w.heap.size, 3, none⟩) (Nat.le_refl _) (.int .i64 0)).setCell (p := ⟨w.heap.size, 4, none⟩) (Nat.le_refl _) (.int .i64 0)).setCell (p := ⟨w.heap.size, 5, none⟩) (Nat.le_refl _) (.int .i64 0)).setCell (p := ⟨w.heap.size, 6, none⟩) (Nat.le_refl _) (.slice none 0 0)).setCell (p := ⟨w.heap.size, 7, none⟩) (Nat.le_refl _) (.bool false)).setCell (p := ⟨w.heap.size, 8, none⟩) (Nat.le_refl _) (.int .i64 0)))
    refine bodyPost_ret (v := .tuple #[recV 0 0 ⟨#[]⟩ 0 0 0 none 0 0 false 0, .int .i64 3]) (by simp [results, Tryd.results101, go_sem, z0, z1, z2, z3, z4, z5, z6, z7, z8]) rfl ⟨.inl ⟨HD.out, rfl⟩, HF.out⟩
  have t0 : decide (st20 = some []) = true := by simpa using hwh
  rw [t0] at HW20
  clear t0
  by_cases hgt : 1 < gn
  · have HD : Hid (decR l = none) := Lib.hid (by unfold decR; rw [HPR.out]; rw [if_neg (fun h => by have := h.2.1; simp only at this; omega)])
    have t1 : decide ((1 : Int) < (gn : Int)) = true := by simp; omega
    have t1' : decide (1 < gn) = true := by simpa using hgt
    clear hgt hwh
    go_wp2_with (go_at_call 68; refine HW20.out.mono ?_; rintro e W21 ⟨rfl, rfl⟩)
    have RBf := (((((((((HRB20.out.set 0 (by simp [zeroR]) (.int .i64 0)).set 1 (by simp [zeroR]) (.int .i64 0)).set 2 (by simp [zeroR]) (.string ⟨#[]⟩)).set 3 (by simp [zeroR]) (.int .i64 0)).set 4 (by simp [zeroR]) (.int .i64 0)).set 5 (by simp [zeroR]) (.int .i64 0)).set 6 (by simp [zeroR]) (.slice none 0 0)).set 7 (by simp [zeroR]) (.bool false)).set 8 (by simp [zeroR]) (.int .i64 0))
    have z0 := RBf.c 0 _ rfl
    have z1 := RBf.c 1 _ rfl
    have z2 := RBf.c 2 _ rfl
    have z3 := RBf.c 3 _ rfl
    have z4 := RBf.c 4 _ rfl
    have z5 := RBf.c 5 _ rfl
    have z6 := RBf.c 6 _ rfl
    have z7 := RBf.c 7 _ rfl
    have z8 := RBf.c 8 _ rfl
    have HF : Hid (Below w.heap.size w _) := Lib.hid ((((((((((HB20.out.setCell (p := ⟨w.heap.size, 0, none⟩) (Nat.le_refl _) (.int .i64 0)).setCell (p := ⟨w.heap.size, 1, none⟩) (Nat.le_refl _) (.int .i64 0)).setCell (p := ⟨w.heap.size, 2, none⟩) (Nat.le_refl _) (.string ⟨#[]⟩)).setCell (p := ⟨w.heap.size, 3, none⟩) (Nat.le_refl _) (.int .i64 0)).setCell (p := ⟨w.heap.size, 4, none⟩) (Nat.le_refl _) (.int .i64 0)).setCell (p := ⟨w.heap.size, 5, none⟩) (Nat.le_refl _) (.int .i64 0)).setCell (p := ⟨w.heap.size, 6, none⟩) (Nat.le_refl _) (.slice none 0 0)).setCell (p := ⟨w.heap.size, 7, none⟩) (Nat.le_refl _) (.bool false)).setCell (p := ⟨w.heap.size, 8, none⟩) (Nat.le_refl _) (.int .i64 0)))
    refine bodyPost_ret (v := .tuple #[recV 0 0 ⟨#[]⟩ 0 0 0 none 0 0 false 0, .int .i64 3]) (by simp [results, Tryd.results101, go_sem, z0, z1, z2, z3, z4, z5, z6, z7, z8]) rfl ⟨.inl ⟨HD.out, rfl⟩, HF.out⟩
  have t1 : decide ((1 : Int) < (gn : Int)) = false := by simp; omega
  have t1' : decide (1 < gn) = false := by simpa using hgt
  have HIS20 := Lib.hid (HIS.out o s KB ml ct o A20 val.length c20 ((gn : Int) == 1) tt W20)
  have hgi : ((gn : Int) == 1) = (gn == 1) := by rw [Bool.eq_iff_iff]; simp; omega
  have hok : okR ⟨o, s, (rBytes st2).1, ml, ct, o, val, gn == 1, tt⟩ = okN o s KB.size ml ct o val.length ((gn : Int) == 1) tt := by
    rw [okR_n]
    show okN o s (rBytes st2).1.length ml ct o val.length (gn == 1) tt = _
    rw [← hky.out, kL_len, hgi]
  have HGI := Lib.hid hgi
  have HKE : Hid (strB (rBytes st2).1 = KB) := Lib.hid (by rw [← hky.out, str_kL])
  have HDD : Hid (∀ b, okN o s KB.size ml ct o val.length ((gn : Int) == 1) tt = b → decR l = if b then some ⟨o, s, (rBytes st2).1, ml, ct, o, val, gn == 1, tt⟩ else none) := Lib.hid (fun b hbb => by
    unfold decR
    rw [HPR.out]
    simp only
    rw [hok, hbb]
    cases b
    · rw [if_neg (fun h => by cases h.2.2)]; rfl
    · rw [if_pos ⟨hwh, by omega, rfl⟩]; rfl)
  have HNE : Hid (∀ ad, A20 = some ad → w.heap.size + 1 ≤ ad.block) := Lib.hid (fun ad had => HAD.out ad had)
  clear hgi hok hgt hwh
  cases hk : okN o s KB.size ml ct o val.length ((gn : Int) == 1) tt
  · have HD : Hid (decR l = none) := Lib.hid (HDD.out false hk)
    rw [hk] at HIS20
    clear hk HDD
    go_wp2_with (first | (go_at_call 68; refine HW20.out.mono ?_; rintro e W21 ⟨rfl, rfl⟩) | (go_at_call 46; refine HIS20.out.mono ?_; rintro e W21 ⟨rfl, k21⟩; have X21 := HX20.out.below k21; have RB21 := HRB20.out.below k21; have HRB21 := Lib.hid RB21; have HB21 := Lib.hid (HB20.out.trans (k21.mono HB20.out.size)); clear k21 x0 x1 x2 x3 x4 x5 x6 x7 x8 xl r0 r1 r2 r3 r4 r5 r6 r7 r8 rf rl; have x0 := X21.c 0 _ rfl; have x1 := X21.c 1 _ rfl; have x2 := X21.c 2 _ rfl; have x3 := X21.c 3 _ rfl; have x4 := X21.c 4 _ rfl; have x5 := X21.c 5 _ rfl; have x6 := X21.c 6 _ rfl; have x7 := X21.c 7 _ rfl; have x8 := X21.c 8 _ rfl; have xl := X21.lt; have r0 := RB21.c 0 _ rfl; have r1 := RB21.c 1 _ rfl; have r2 := RB21.c 2 _ rfl; have r3 := RB21.c 3 _ rfl; have r4 := RB21.c 4 _ rfl; have r5 := RB21.c 5 _ rfl; have r6 := RB21.c 6 _ rfl; have r7 := RB21.c 7 _ rfl; have r8 := RB21.c 8 _ rfl; have rf := RB21.fz; have rl := RB21.lt))
    have RBf := (((((((((HRB21.out.set 0 (by simp [zeroR]) (.int .i64 0)).set 1 (by simp [zeroR]) (.int .i64 0)).set 2 (by simp [zeroR]) (.string ⟨#[]⟩)).set 3 (by simp [zeroR]) (.int .i64 0)).set 4 (by simp [zeroR]) (.int .i64 0)).set 5 (by simp [zeroR]) (.int .i64 0)).set 6 (by simp [zeroR]) (.slice none 0 0)).set 7 (by simp [zeroR]) (.bool false)).set 8 (by simp [zeroR]) (.int .i64 0))
    have z0 := RBf.c 0 _ rfl
    have z1 := RBf.c 1 _ rfl
    have z2 := RBf.c 2 _ rfl
    have z3 := RBf.c 3 _ rfl
    have z4 := RBf.c 4 _ rfl
    have z5 := RBf.c 5 _ rfl
    have z6 := RBf.c 6 _ rfl
    have z7 := RBf.c 7 _ rfl
    have z8 := RBf.c 8 _ rfl
    have HF : Hid (Below w.heap.size w _) := Lib.hid ((((((((((HB21.out.setCell (p := ⟨w.heap.size, 0, none⟩) (Nat.le_refl _) (.int .i64 0)).setCell (p := ⟨w.heap.size, 1, none⟩) (Nat.le_refl _) (.int .i64 0)).setCell (p := ⟨w.heap.size, 2, none⟩) (Nat.le_refl _) (.string ⟨#[]⟩)).setCell (p := ⟨w.heap.size, 3, none⟩) (Nat.le_refl _) (.int .i64 0)).setCell (p := ⟨w.heap.size, 4, none⟩) (Nat.le_refl _) (.int .i64 0)).setCell (p := ⟨w.heap.size, 5, none⟩) (Nat.le_refl _) (.int .i64 0)).setCell (p := ⟨w.heap.size, 6, none⟩) (Nat.le_refl _) (.slice none 0 0)).setCell (p := ⟨w.heap.size, 7, none⟩) (Nat.le_refl _) (.bool false)).setCell (p := ⟨w.heap.size, 8, none⟩) (Nat.le_refl _) (.int .i64 0)))
    refine bodyPost_ret (v := .tuple #[recV 0 0 ⟨#[]⟩ 0 0 0 none 0 0 false 0, .int .i64 3]) (by simp [results, Tryd.results101, go_sem, z0, z1, z2, z3, z4, z5, z6, z7, z8]) rfl ⟨.inl ⟨HD.out, rfl⟩, HF.out⟩
  · have HD := Lib.hid (HDD.out true hk)
    rw [hk] at HIS20
    clear hk HDD
    go_wp2_with (first | (go_at_call 68; refine HW20.out.mono ?_; rintro e W21 ⟨rfl, rfl⟩) | (go_at_call 46; refine HIS20.out.mono ?_; rintro e W21 ⟨rfl, k21⟩; have X21 := HX20.out.below k21; have RB21 := HRB20.out.below k21; have HRB21 := Lib.hid RB21; have HB21 := Lib.hid (HB20.out.trans (k21.mono HB20.out.size)); have HV21 := Lib.hid (HV20.out.1.below k21); clear k21 x0 x1 x2 x3 x4 x5 x6 x7 x8 xl r0 r1 r2 r3 r4 r5 r6 r7 r8 rf rl; have x0 := X21.c 0 _ rfl; have x1 := X21.c 1 _ rfl; have x2 := X21.c 2 _ rfl; have x3 := X21.c 3 _ rfl; have x4 := X21.c 4 _ rfl; have x5 := X21.c 5 _ rfl; have x6 := X21.c 6 _ rfl; have x7 := X21.c 7 _ rfl; have x8 := X21.c 8 _ rfl; have xl := X21.lt; have r0 := RB21.c 0 _ rfl; have r1 := RB21.c 1 _ rfl; have r2 := RB21.c 2 _ rfl; have r3 := RB21.c 3 _ rfl; have r4 := RB21.c 4 _ rfl; have r5 := RB21.c 5 _ rfl; have r6 := RB21.c 6 _ rfl; have r7 := RB21.c 7 _ rfl; have r8 := RB21.c 8 _ rfl; have rf := RB21.fz; have rl := RB21.lt))
    have RBf := (((((((((HRB21.out.set 0 (by simp [zeroR]) (.int .i64 o)).set 1 (by simp [zeroR]) (.int .i64 s)).set 2 (by simp [zeroR]) (.string KB)).set 3 (by simp [zeroR]) (.int .i64 ml)).set 4 (by simp [zeroR]) (.int .i64 ct)).set 5 (by simp [zeroR]) (.int .i64 o)).set 6 (by simp [zeroR]) (.slice A20 val.length c20)).set 7 (by simp [zeroR]) (.bool ((gn : Int) == 1))).set 8 (by simp [zeroR]) (.int .i64 tt))
    have z0 := RBf.c 0 _ rfl
    have z1 := RBf.c 1 _ rfl
    have z2 := RBf.c 2 _ rfl
    have z3 := RBf.c 3 _ rfl
    have z4 := RBf.c 4 _ rfl
    have z5 := RBf.c 5 _ rfl
    have z6 := RBf.c 6 _ rfl
    have z7 := RBf.c 7 _ rfl
    have z8 := RBf.c 8 _ rfl
    have HF : Hid (Below w.heap.size w _) := Lib.hid ((((((((((HB21.out.setCell (p := ⟨w.heap.size, 0, none⟩) (Nat.le_refl _) (.int .i64 o)).setCell (p := ⟨w.heap.size, 1, none⟩) (Nat.le_refl _) (.int .i64 s)).setCell (p := ⟨w.heap.size, 2, none⟩) (Nat.le_refl _) (.string KB)).setCell (p := ⟨w.heap.size, 3, none⟩) (Nat.le_refl _) (.int .i64 ml)).setCell (p := ⟨w.heap.size, 4, none⟩) (Nat.le_refl _) (.int .i64 ct)).setCell (p := ⟨w.heap.size, 5, none⟩) (Nat.le_refl _) (.int .i64 o)).setCell (p := ⟨w.heap.size, 6, none⟩) (Nat.le_refl _) (.slice A20 val.length c20)).setCell (p := ⟨w.heap.size, 7, none⟩) (Nat.le_refl _) (.bool ((gn : Int) == 1))).setCell (p := ⟨w.heap.size, 8, none⟩) (Nat.le_refl _) (.int .i64 tt)))
    have HVF := Lib.hid (HV21.out.but (S := fun i => i = w.heap.size) (But.of_only ((((((((((Only.refl w.heap.size W21).setB (o := 0) (.int .i64 o)).setB (o := 1) (.int .i64 s)).setB (o := 2) (.string KB)).setB (o := 3) (.int .i64 ml)).setB (o := 4) (.int .i64 ct)).setB (o := 5) (.int .i64 o)).setB (o := 6) (.slice A20 val.length c20)).setB (o := 7) (.bool ((gn : Int) == 1))).setB (o := 8) (.int .i64 tt)) rfl) (fun _ ad had e => by have := HNE.out ad had; omega))
    refine bodyPost_ret (v := .tuple #[recV o s KB ml ct o A20 val.length c20 ((gn : Int) == 1) tt, .int .i64 0]) (by simp [results, Tryd.results101, go_sem, z0, z1, z2, z3, z4, z5, z6, z7, z8]) rfl ⟨.inr ⟨_, A20, c20, HD.out, by rw [HGI.out, HKE.out], HVF.out, HV20.out.2.1, HV20.out.2.2⟩, HF.out⟩
end Go.Proofs.YtdffldlcbihjmaaDoor

/- The reference's ReadList (written by gen/refrdl.py). -/
namespace Go.Proofs.YtdffldlcbihjmaaDoor
open Go.RowKit

theorem decR_nil : decR [] = none := by simp [decR, pR, rNum, rBytes, rRaw, decN]
theorem rBytes_no {s : RSt} (h : (rBytes s).2 = none) : (rBytes s).1 = [] := by
  unfold rBytes at h ⊢
  cases hs : (rNum s).2 with
  | none => rfl
  | some bs =>
    rw [hs] at h
    rcases Nat.lt_or_ge bs.length (rNum s).1 with q | q
    · rw [rRaw_long q]
    · rw [rRaw_yes q] at h; cases h
theorem rdL_no {l : List Int} (h : (rNum (some l)).2 = none) : rdL l = none := by
  cases hn : (rNum (some l)).1 with
  | zero => exact rdL_more (rs := []) (s := none) (by rw [h, hn]; rfl) (by simp)
  | succ k => exact rdL_bad (by rw [h, hn]; exact listR_none (by rw [show (rBytes none).1 = [] from rfl]; exact decR_nil))
set_option maxRecDepth 100000 in
set_option maxHeartbeats 8000000 in
theorem ref_rdl (A : Option Addr) (l : List Int) (c : Nat) (w : World) (hby : ByL w A l) (hb : isBy l) (hn : A = none → l.length = 0 ∧ c = 0) (hl : l.length ≤ 100000) (hc : l.length ≤ c) (hcm : c ≤ maxLen)
    (hDec : ∀ (A : Option Addr) (l : List Int) (c : Nat) (w : World), ByL w A l → isBy l → (A = none → l.length = 0 ∧ c = 0) → l.length ≤ 100000 → l.length ≤ c → c ≤ maxLen → Calls Tryd.prog 101 #[.slice A l.length c] w fun e w' => DecRes l w w' e ∧ Below w.heap.size w w') :
    Calls Tryd.prog 67 #[.slice A l.length c] w fun e w' => ListRes l w w' e ∧ Below w.heap.size w w' := by
  obtain ⟨i0, hi0, hz0, hz1, hz2⟩ := info_parts rec_info
  have hud : undef = Value.tuple #[] := rfl
  have HZ : Hid (Below w.heap.size w (w.alloc (.cells #[.slice A l.length c, .bool false] 118))) := Lib.hid (by (repeat' (first | (with_reducible exact Below.refl _ _) | (with_reducible assumption) | (with_reducible refine Below.trans ?_ (Below.mono (by with_reducible assumption) ?_)) | (with_reducible refine Below.alloc ?_ ?_ _) | (with_reducible refine Below.setCell ?_ ?_ _) | (with_reducible refine below_drewN ?_ _) | (with_reducible refine Below.drew ?_) | go_size)))
  have HR0 : Hid (Rd (fun i => i < w.heap.size) (w.alloc (.cells #[.slice A l.length c, .bool false] 118)) w.heap.size (some l)) := Lib.hid
    ⟨by omega, by simp, by simp, by simp, (fun e => by cases e), fun bs e => by
      injection e with e
      subst e
      exact ⟨A, c, by simp [World.cell?_alloc_new, go_sem], by simp [go_sem], hc, hcm, hby.below HZ.out, (fun ad had hp => by
        obtain ⟨B, O, e1, e2, _⟩ := hby hp
        rw [had] at e1
        injection e1 with e1
        subst e1
        exact ⟨e2, rfl⟩), hb, hn⟩⟩
  have HLL : Hid (l.length ≤ 100000) := Lib.hid hl
  have HD := Lib.hid hDec
  have hz : (w.alloc (.cells #[.slice A l.length c, .bool false] 118)).heap.size = w.heap.size + 1 := by simp
  clear hby hb hn hl hc hcm hDec
  go_enter Tryd.func67, Tryd.ntmps67
  go_wp2_with fail
  generalize w.alloc (.cells #[.slice A l.length c, .bool false] 118) = Z at *
  refine (rr_num w.heap.size (some l) Z HR0.out (by show l.length ≤ _; have := HLL.out; omega)).mono ?_; rintro e W2 ⟨rfl, hp⟩
  have hRL := RL.start hp.rd (Nat.le_trans (rNum_left (some l)) HLL.out) (HZ.out.trans (hp.only.below (by omega) HZ.out.size)) (Nat.le_refl _)
  have HLONG : Hid (64 < (rNum (some l)).1 → rdL l = none) := Lib.hid rdL_long
  have HBAD : Hid (listR (rNum (some l)).1 (rNum (some l)).2 [] = none → rdL l = none) := Lib.hid rdL_bad
  have HMORE : Hid (∀ rs s, listR (rNum (some l)).1 (rNum (some l)).2 [] = some (rs, s) → s ≠ some [] → rdL l = none) := Lib.hid (fun rs s h1 h2 => rdL_more h1 h2)
  have HYES : Hid (∀ rs, ¬ 64 < (rNum (some l)).1 → listR (rNum (some l)).1 (rNum (some l)).2 [] = some (rs, some []) → rdL l = some rs) := Lib.hid (fun rs h1 h2 => rdL_yes h1 h2)
  have HNO : Hid ((rNum (some l)).2 = none → rdL l = none) := Lib.hid rdL_no
  have hn62 : Hid ((rNum (some l)).1 ≤ 4611686018427387904) := Lib.hid (by have := rNum_le HR0.out.by_; simpa using this)
  have HS0 := Lib.hid hRL
  have s2 : w.heap.size + 1 ≤ W2.heap.size := by have := hp.only.size; omega
  clear hp hRL HR0 HZ hz
  generalize (rNum (some l)).1 = n at *
  generalize (rNum (some l)).2 = st at *
  have hni : (n : Int) ≤ 4611686018427387904 := by have := hn62.out; omega
  have hgq : ∀ i, W2.heap.size ≤ i → ¬ i < w.heap.size := fun i hi => by omega
  have HGQ := Lib.hid hgq
  clear hgq hn62
  go_wp2
  go_loopw [6, 7] (fun v i wr => ∃ (k : Nat) (L : List Mr) (s : RSt), k ≤ n ∧ k ≤ 65 ∧ i = .int .i64 k ∧ RL (fun i => i < w.heap.size) w wr w.heap.size v k L s ∧ W2.heap.size ≤ wr.heap.size ∧ ((s = none ∧ rdL l = none) ∨ ((∃ bs, s = some bs) ∧ listR n st [] = listR (n - k) s (L.map Mr.r)))) (fun _ i _ => n - (intOf i).toNat)
  case atStart =>
    refine ⟨0, [], st, Nat.zero_le _, by omega, rfl, HS0.out, Nat.le_refl _, ?_⟩
    cases st with
    | none => exact .inl ⟨rfl, HNO.out rfl⟩
    | some bs => exact .inr ⟨⟨bs, rfl⟩, rfl⟩
  case round =>
    obtain ⟨k, L, s, hk, hk65, rfl, hRL, hzr, hst⟩ := hrel
    clear HS0
    obtain ⟨Av, cv, rfl⟩ := hRL.shape
    have HBw := Lib.hid hRL.bel
    by_cases hlt : k < n
    rotate_left
    · obtain rfl : k = n := by omega
      have t1 : decide ((k : Int) < (k : Int)) = false := by simp
      by_cases hn64 : 64 < k
      · have t9 : decide ((64 : Int) < (k : Int)) = true := by simp; omega
        have HE := Lib.hid (HLONG.out (by omega))
        clear hRL hst
        go_wp2
        go_ret2
        exact ⟨.inl ⟨HE.out, rfl⟩, HBw.out⟩
      · have t9 : decide ((64 : Int) < (k : Int)) = false := by simp; omega
        have HW := Lib.hid (rr_whole w.heap.size s wr hRL.rd)
        have HRL := Lib.hid hRL
        have HN64 := Lib.hid hn64
        by_cases hs : s = some []
        · rw [show decide (s = some []) = true from by simp [hs]] at HW
          have HE : Hid (rdL l = some (L.map Mr.r)) := Lib.hid (by
            rcases hst with ⟨h1, _⟩ | ⟨_, h2⟩
            · rw [hs] at h1; cases h1
            · exact HYES.out (L.map Mr.r) hn64 (by rw [h2, Nat.sub_self, listR, hs]))
          clear hs hst hRL hn64 hlt hk
          go_wp2_with (go_at_call 68; refine HW.out.mono ?_; rintro e W6 ⟨rfl, rfl⟩)
          go_ret2
          exact ⟨.inr ⟨L, _, HE.out, rfl, by rw [HRL.out.len]; exact HRL.out.row, by have := HRL.out.len; have := HN64.out; omega, fun m hm => (HRL.out.ats m hm).mono (fun i _ h => h.1)⟩, HBw.out⟩
        · rw [show decide (s = some []) = false from by simp [hs]] at HW
          have HE : Hid (rdL l = none) := Lib.hid (by
            rcases hst with ⟨_, h1⟩ | ⟨_, h2⟩
            · exact h1
            · exact HMORE.out (L.map Mr.r) s (by rw [h2, Nat.sub_self, listR]) hs)
          clear hs hst hRL hn64 hlt hk
          go_wp2_with (go_at_call 68; refine HW.out.mono ?_; rintro e W6 ⟨rfl, rfl⟩)
          go_ret2
          exact ⟨.inl ⟨HE.out, rfl⟩, HBw.out⟩
    have t1 : decide ((k : Int) < (n : Int)) = true := by simp; omega
    by_cases hk64 : k ≤ 64
    rotate_left
    · have t2 : decide ((k : Int) ≤ 64) = false := by simp; omega
      have t9 : decide ((64 : Int) < (n : Int)) = true := by simp; omega
      have HE := Lib.hid (HLONG.out (by omega))
      clear hRL hst
      go_wp2
      go_ret2
      exact ⟨.inl ⟨HE.out, rfl⟩, HBw.out⟩
    have t2 : decide ((k : Int) ≤ 64) = true := by simp; omega
    have lk : (k : Int) < (n : Int) := by omega
    have lk64 : (k : Int) ≤ 64 := by omega
    rcases hst with ⟨hs0, hrn⟩ | ⟨⟨bs0, hs0⟩, heq⟩
    · have HSN := Lib.hid hs0
      have HRN := Lib.hid hrn
      obtain ⟨d0, d1⟩ := (hs0 ▸ hRL.rd).no rfl
      have dl := hRL.rd.lt
      have hst : True := trivial
      clear hrn hs0
      by_cases hn64 : 64 < n
      · have t9 : decide ((64 : Int) < (n : Int)) = true := by simp; omega
        have HE := Lib.hid (HLONG.out (by omega))
        clear hRL hst
        go_wp2
        go_ret2
        exact ⟨.inl ⟨HE.out, rfl⟩, HBw.out⟩
      · have t9 : decide ((64 : Int) < (n : Int)) = false := by simp; omega
        have HW := Lib.hid (rr_whole w.heap.size s wr hRL.rd)
        rw [show decide (s = some []) = false from by simp [HSN.out]] at HW
        have HE := Lib.hid HRN.out
        clear hRL hst
        go_wp2_with (go_at_call 68; refine HW.out.mono ?_; rintro e W6 ⟨rfl, rfl⟩)
        go_ret2
        exact ⟨.inl ⟨HE.out, rfl⟩, HBw.out⟩
    · obtain ⟨A0, c0, d0, d1, _⟩ := hRL.rd.yes bs0 hs0
      have dl := hRL.rd.lt
      rw [show n - k = (n - (k + 1)) + 1 from by omega] at heq
      have HBT := Lib.hid (rr_bytes w.heap.size s wr hRL.rd (by have := hRL.left; omega))
      have HL2 : Hid (rLeft (rBytes s).2 ≤ 100000 ∧ (rBytes s).1.length ≤ 100000) := Lib.hid ⟨Nat.le_trans (rBytes_left s).1 hRL.left, Nat.le_trans (rBytes_left s).2 hRL.left⟩
      have HBY := Lib.hid (rBytes_by hRL.rd.by_).2
      have HRL := Lib.hid hRL
      have HNO2 : Hid (decR (rBytes s).1 = none → rdL l = none) := Lib.hid (fun h => HBAD.out (heq.trans (listR_none h)))
      have HGO : Hid (∀ r, decR (rBytes s).1 = some r → (∃ bs, (rBytes s).2 = some bs) ∧ listR n st [] = listR (n - (k + 1)) (rBytes s).2 (L.map Mr.r ++ [r])) := Lib.hid (fun r h => ⟨(by
        cases hx : (rBytes s).2 with
        | some bs => exact ⟨bs, rfl⟩
        | none =>
          exfalso
          rw [rBytes_no hx, decR_nil] at h
          cases h), heq.trans (listR_some h)⟩)
      have HZL : Hid (w.heap.size < wr.heap.size) := Lib.hid hRL.rd.lt
      have HK := Lib.hid (And.intro hlt hk64)
      clear hRL heq hlt hs0 hk64
      generalize (rBytes s).2 = s' at *
      generalize (rBytes s).1 = bs at *
      go_wp2_with fail
      refine HBT.out.mono ?_; rintro e Wa ⟨ht, hp⟩
      obtain ⟨A3, c3, rfl, y3, n3, l3, m3, f3⟩ := ht
      have HRa := Lib.hid (HRL.out.read hp HL2.out.1)
      have HDa := Lib.hid (HD.out A3 bs c3 Wa y3 HBY.out n3 HL2.out.2 l3 m3)
      have za := hp.only.size
      clear hp HBT HRL y3 n3 f3 d0 d1 dl l3 m3
      go_wp2_with fail
      refine HDa.out.mono ?_; rintro e Wd ⟨hres, kd⟩
      have HRd := Lib.hid (HRa.out.below kd)
      have zd := kd.size
      rcases hres with ⟨hno, rfl⟩ | ⟨r, A4, c4, hyes, rfl, y4, n4, f4⟩
      · have HE := Lib.hid (HNO2.out hno)
        have HRe := Lib.hid (HRd.out.below ((Below.refl _ _).alloc (Nat.le_refl _) (recO 0 0 ⟨#[]⟩ 0 0 0 none 0 0 false 0)))
        have HXe := Lib.hid (XB.new Wd #[.int .i64 0, .int .i64 0, .string ⟨#[]⟩, .int .i64 0, .int .i64 0, .int .i64 0, .slice none 0 0, .bool false, .int .i64 0] 89)
        have HBADc := Lib.hid (rr_bad w.heap.size s' _ HRe.out.rd)
        clear hno kd HDa HRa HRd HGO HNO2
        go_wp2_with fail
        refine HBADc.out.mono ?_; rintro e Wb ⟨rfl, hpb⟩
        have HRb := Lib.hid (HRe.out.read hpb (by show (0 : Nat) ≤ _; omega))
        have HBd := Lib.hid HRb.out.bel
        have zb := hpb.only.size
        rw [World.size_alloc] at zb
        have X1 := HXe.out.only hpb.only (by have := HRe.out.rd.lt; have := HZL.out; omega)
        have x0 := X1.c 0 _ rfl
        have x1 := X1.c 1 _ rfl
        have x2 := X1.c 2 _ rfl
        have x3 := X1.c 3 _ rfl
        have x4 := X1.c 4 _ rfl
        have x5 := X1.c 5 _ rfl
        have x6 := X1.c 6 _ rfl
        have x7 := X1.c 7 _ rfl
        have x8 := X1.c 8 _ rfl
        have xl := X1.lt
        clear hpb HXe HRe HBADc X1
        have HM : Hid ((Mr.mk ⟨0, 0, [], 0, 0, 0, [], false, 0⟩ none 0).At (fun i => w.heap.size ≤ i ∧ i ≠ w.heap.size ∧ (Value.slice Av k cv).ownBlock ≠ some i) Wb) := Lib.hid ⟨ByL.nil _ _, fun _ => rfl, fun h0 => absurd h0 (by simp)⟩
        have HMC : Hid ((Mr.mk ⟨0, 0, [], 0, 0, 0, [], false, 0⟩ none 0).cs = [.int .i64 0, .int .i64 0, .string ⟨#[]⟩, .int .i64 0, .int .i64 0, .int .i64 0, .slice none 0 0, .bool false, .int .i64 0]) := Lib.hid rfl
        have hrow := HRb.out.row.alloc (.cells #[.int .i64 0, .int .i64 0, .string ⟨#[]⟩, .int .i64 0, .int .i64 0, .int .i64 0, .slice none 0 0, .bool false, .int .i64 0] 89)
        have HA2 : Hid (Below Wb.heap.size Wb (Wb.alloc (.cells #[.int .i64 0, .int .i64 0, .string ⟨#[]⟩, .int .i64 0, .int .i64 0, .int .i64 0, .slice none 0 0, .bool false, .int .i64 0] 89))) := Lib.hid (by (repeat' (first | (with_reducible exact Below.refl _ _) | (with_reducible assumption) | (with_reducible refine Below.trans ?_ (Below.mono (by with_reducible assumption) ?_)) | (with_reducible refine Below.alloc ?_ ?_ _) | (with_reducible refine Below.setCell ?_ ?_ _) | (with_reducible refine below_drewN ?_ _) | (with_reducible refine Below.drew ?_) | go_size)))
        have HNEWS : Hid _ := Lib.hid (World.news_of_block (cs := #[.int .i64 0, .int .i64 0, .string ⟨#[]⟩, .int .i64 0, .int .i64 0, .int .i64 0, .slice none 0 0, .bool false, .int .i64 0]) (t := 89) (fr := (0, 0)) (heap_alloc_new Wb (.cells #[.int .i64 0, .int .i64 0, .string ⟨#[]⟩, .int .i64 0, .int .i64 0, .int .i64 0, .slice none 0 0, .bool false, .int .i64 0] 89)))
        go_wp2_with (at_builtin; refine wpList_append_lies _ rfl (.tmp 41) (.tmp 43) _ rfl w.heap.size 89 i0 _ 9 96 Tryd.underlying24 hi0 hz0 hz1 hz2 rfl (by decide) (.slice Av k cv) k _ rfl hrow ⟨Wb.heap.size, 0, none⟩ 1 1 [.int .i64 0, .int .i64 0, .string ⟨#[]⟩, .int .i64 0, .int .i64 0, .int .i64 0, .slice none 0 0, .bool false, .int .i64 0] rfl rfl HNEWS.out (by simp [Value.oneCell']) (by omega) (by unfold maxLen; omega) (by omega) (by have := HBd.out.size; simp; omega) _ rfl ?_; intro g2 cap2 W5 hown2 hg2 hat2 hlt2)
        have HRf := Lib.hid (HRb.out.app HM.out HA2.out hg2 (by rw [HMC.out]; exact hown2) (hat2.imp_right (fun e => Nat.le_of_eq e.symm)) (fun i hi => HGQ.out i (by omega)))
        have z5 : W2.heap.size ≤ W5.heap.size := by have h1 := hg2.size; simp only [World.size_alloc] at h1; omega
        clear hown2 hg2 hat2 hlt2 hrow HA2 HM HNEWS
        (try go_wp2)
        go_roundw
        case rel => exact ⟨k + 1, L ++ [Mr.mk ⟨0, 0, [], 0, 0, 0, [], false, 0⟩ none 0], none, by have := HK.out; omega, by have := HK.out; omega, by go_num, HRf.out, z5, .inl ⟨rfl, HE.out⟩⟩
        case measure => simp [intOf]; have := HK.out; omega
      · have HBd := Lib.hid HRd.out.bel
        have HM : Hid ((Mr.mk r A4 c4).At (fun i => w.heap.size ≤ i ∧ i ≠ w.heap.size ∧ (Value.slice Av k cv).ownBlock ≠ some i) Wd) := Lib.hid ⟨y4, n4, fun h0 ad had => by
          have h1 := f4 ad had
          have h2 := HRa.out.bel.size
          have h3 := HRa.out.rd.lt
          refine ⟨by omega, by omega, fun e => ?_⟩
          have := (World.ownsRow.lt HRa.out.row _ e).2
          omega⟩
        have HGO' := Lib.hid (HGO.out r hyes)
        clear hyes y4 n4 f4 HDa HRa HGO HNO2
        obtain ⟨o, sq, key, ml, ct, vo, val, gn, tt⟩ := r
        have HMC : Hid ((Mr.mk ⟨o, sq, key, ml, ct, vo, val, gn, tt⟩ A4 c4).cs = [.int .i64 o, .int .i64 sq, .string (strB key), .int .i64 ml, .int .i64 ct, .int .i64 vo, .slice A4 val.length c4, .bool gn, .int .i64 tt]) := Lib.hid rfl
        have hrow := (HRd.out.row.alloc (recO o sq (strB key) ml ct vo A4 val.length c4 gn tt)).alloc (.cells #[.int .i64 o, .int .i64 sq, .string (strB key), .int .i64 ml, .int .i64 ct, .int .i64 vo, .slice A4 val.length c4, .bool gn, .int .i64 tt] 89)
        have HA2 : Hid (Below Wd.heap.size Wd ((Wd.alloc (recO o sq (strB key) ml ct vo A4 val.length c4 gn tt)).alloc (.cells #[.int .i64 o, .int .i64 sq, .string (strB key), .int .i64 ml, .int .i64 ct, .int .i64 vo, .slice A4 val.length c4, .bool gn, .int .i64 tt] 89))) := Lib.hid (by (repeat' (first | (with_reducible exact Below.refl _ _) | (with_reducible assumption) | (with_reducible refine Below.trans ?_ (Below.mono (by with_reducible assumption) ?_)) | (with_reducible refine Below.alloc ?_ ?_ _) | (with_reducible refine Below.setCell ?_ ?_ _) | (with_reducible refine below_drewN ?_ _) | (with_reducible refine Below.drew ?_) | go_size)))
        have HNEWS : Hid _ := Lib.hid (World.news_of_block (cs := #[.int .i64 o, .int .i64 sq, .string (strB key), .int .i64 ml, .int .i64 ct, .int .i64 vo, .slice A4 val.length c4, .bool gn, .int .i64 tt]) (t := 89) (fr := (0, 0)) (heap_alloc_new (Wd.alloc (recO o sq (strB key) ml ct vo A4 val.length c4 gn tt)) (.cells #[.int .i64 o, .int .i64 sq, .string (strB key), .int .i64 ml, .int .i64 ct, .int .i64 vo, .slice A4 val.length c4, .bool gn, .int .i64 tt] 89)))
        rw [World.size_alloc] at HNEWS
        go_wp2_with (at_builtin; refine wpList_append_lies _ rfl (.tmp 41) (.tmp 43) _ rfl w.heap.size 89 i0 _ 9 96 Tryd.underlying24 hi0 hz0 hz1 hz2 rfl (by decide) (.slice Av k cv) k _ rfl hrow ⟨Wd.heap.size + 1, 0, none⟩ 1 1 [.int .i64 o, .int .i64 sq, .string (strB key), .int .i64 ml, .int .i64 ct, .int .i64 vo, .slice A4 val.length c4, .bool gn, .int .i64 tt] rfl rfl HNEWS.out (by simp [Value.oneCell']) (by omega) (by unfold maxLen; omega) (by omega) (by have := HBd.out.size; simp; omega) _ rfl ?_; intro g2 cap2 W5 hown2 hg2 hat2 hlt2)
        have HRf := Lib.hid (HRd.out.app HM.out HA2.out hg2 (by rw [HMC.out]; exact hown2) (hat2.imp_right (fun e => Nat.le_of_eq e.symm)) (fun i hi => HGQ.out i (by omega)))
        have z5 : W2.heap.size ≤ W5.heap.size := by have h1 := hg2.size; simp only [World.size_alloc] at h1; omega
        clear hown2 hg2 hat2 hlt2 hrow HA2 HM HNEWS kd
        (try go_wp2)
        go_roundw
        case rel => exact ⟨k + 1, L ++ [Mr.mk ⟨o, sq, key, ml, ct, vo, val, gn, tt⟩ A4 c4], s', by have := HK.out; omega, by have := HK.out; omega, by go_num, HRf.out, z5, .inr ⟨HGO'.out.1, by rw [HGO'.out.2]; simp⟩⟩
        case measure => simp [intOf]; have := HK.out; omega
end Go.Proofs.YtdffldlcbihjmaaDoor

