/- Stage 17: WireEncodes: any word as bytes, or refused, as the document has it; and back. (for every word) -/
import Derived.BigQuiet
import Derived.Deep.DeepHandedRow
import Derived.Deep.Fields
import Derived.Lib.LaidTab
import Derived.Test.YtdffldlcbihjmaaDoorCards
import Derived.Test.YtdffldlcbihjmaaDoorCrc
import Derived.Test.YtdffldlcbihjmaaDoorLaw
import Derived.Test.YtdffldlcbihjmaaDoorOctMem
import Derived.Test.YtdffldlcbihjmaaDoorRec9
import Derived.Test.YtdffldlcbihjmaaDoorRecList
import Derived.Test.YtdffldlcbihjmaaDoorRecordsR
import Derived.Test.YtdffldlcbihjmaaDoorRecs17
import Derived.Test.YtdffldlcbihjmaaDoorRef17
import Derived.Test.YtdffldlcbihjmaaDoorRefEnc
import Derived.Test.YtdffldlcbihjmaaDoorRowSet
import Derived.Test.YtdffldlcbihjmaaDoorTie
import Derived.Test.YtdffldlcbihjmaaDoorWdBeat
import Derived.Test.YtdffldlcbihjmaaDoorWdDec
import Derived.Test.YtdffldlcbihjmaaDoorWdEnc
import Derived.Test.YtdffldlcbihjmaaDoorWdIs
/- The law's same: whether two rows of bytes are one (written by gen/lawbits.py). -/
set_option linter.unusedSimpArgs false
set_option linter.unusedVariables false
namespace Go.Proofs.YtdffldlcbihjmaaDoor
open Go.RowKit

theorem take_same {p p' : List Int} {k : Nat} (h : p.length = p'.length) (hk : k < p.length) : p.take (k + 1) = p'.take (k + 1) ↔ (p.take k = p'.take k ∧ p[k] = p'[k]) := by
  have e1 := List.take_succ_eq_append_getElem hk
  have e2 := List.take_succ_eq_append_getElem (show k < p'.length by omega)
  rw [e1, e2]
  constructor
  · intro e
    have := List.append_inj e (by simp [List.length_take]; omega)
    exact ⟨this.1, by simpa using this.2⟩
  · rintro ⟨a, b⟩
    rw [a, b]
set_option maxHeartbeats 1000000 in
theorem lsame (A : Option Addr) (p : List Int) (c : Nat) (A' : Option Addr) (p' : List Int) (c' : Nat) (w : World) (hn : p.length ≤ 1000000) (hn' : p'.length ≤ 1000000) (h : ByL w A p) (h' : ByL w A' p') :
    Calls Tryd.prog 15 #[.slice A p.length c, .slice A' p'.length c'] w fun e w' => e = .returned (.bool (decide (p = p'))) ∧ ∃ q, w' = w.drewN q := by
  by_cases hne : p.length = p'.length
  · have HA := Lib.hid h
    have HA' := Lib.hid h'
    have HL := Lib.hid hne
    have HD : Hid (∀ k (q : k < p.length), p[k] ≠ p'[k]'(by rw [← HL.out]; exact q) → decide (p = p') = false) := Lib.hid (fun k q hk => by
      rw [decide_eq_false_iff_not]
      rintro rfl
      exact hk rfl)
    have HY : Hid (p.take p.length = p'.take p.length → decide (p = p') = true) := Lib.hid (fun e => by
      rw [decide_eq_true_eq]
      rw [List.take_length, hne, List.take_length] at e
      exact e)
    have t0 : ((p.length : Int) != (p'.length : Int)) = false := by simp [hne]
    have t0' : (p.length != p'.length) = false := by simp [hne]
    clear h h' hne
    have hni : (p.length : Int) ≤ 1000000 := by omega
    go_enter Tryd.func15, Tryd.ntmps15
    go_wp2
    go_loopw [5] (fun i wr => ∃ k : Nat, k ≤ p.length ∧ i = .int .i64 k ∧ p.take k = p'.take k ∧ ∃ q, wr = w.drewN q) (fun i _ => p.length - (intOf i).toNat)
    case atStart => exact ⟨0, Nat.zero_le _, rfl, by simp, 0, rfl⟩
    case round =>
      obtain ⟨k, hk, rfl, hE, q, hW⟩ := hrel
      by_cases hlt : k < p.length
      · obtain ⟨B, O, rfl, hB, hc⟩ := HA.out (by omega)
        obtain ⟨B', O', rfl, hB', hc'⟩ := HA'.out (by have := HL.out; omega)
        have hlt' : k < p'.length := by have := HL.out; omega
        have x0 : wr.cell? ⟨B, O + k, none⟩ = some (.int .u8 p[k]) := by rw [hW]; exact hc k _ (bC_at p k hlt)
        have x1 : wr.cell? ⟨B', O' + k, none⟩ = some (.int .u8 p'[k]) := by rw [hW]; exact hc' k _ (bC_at p' k hlt')
        have lk : (k : Int) < (p.length : Int) := by omega
        have lk' : (k : Int) < (p'.length : Int) := by omega
        have HS := Lib.hid (take_same HL.out hlt)
        have HN := Lib.hid (HD.out k hlt)
        have HW := Lib.hid hW
        have HE := Lib.hid hE
        clear hc hc' hW hE HD
        generalize p[k] = a at *
        generalize p'[k] = b at *
        by_cases hab : a = b
        · have t1 : (a != b) = false := by simp [hab]
          have HS2 : Hid (p.take (k + 1) = p'.take (k + 1)) := Lib.hid (HS.out.2 ⟨HE.out, hab⟩)
          clear hab HS HN
          go_wp2
          go_quiet (fail)
          go_wp2
          go_roundw
          case rel => exact ⟨k + 1, by omega, by go_num, HS2.out, q + nq, by rw [HW.out]; simp [World.drewN, Nat.add_assoc]⟩
          case measure => simp [intOf]; omega
        · have t1 : (a != b) = true := by simpa using hab
          have HN2 := Lib.hid (HN.out hab)
          clear hab HN HS
          go_wp2
          go_quiet (fail)
          go_wp2
          go_ret
          exact ⟨by rw [HN2.out]; rfl, q + nq, by rw [HW.out]; simp [World.drewN, Nat.add_assoc]⟩
      · obtain rfl : k = p.length := by omega
        have HE := Lib.hid (HY.out hE)
        clear hE HY HD
        have HW := Lib.hid hW
        clear hW
        go_wp2
        go_ret
        exact ⟨by rw [HE.out]; rfl, q, HW.out⟩
  · have t0 : ((p.length : Int) != (p'.length : Int)) = true := by simp; omega
    have t0' : (p.length != p'.length) = true := by simpa using hne
    have HEB : Hid (decide (p = p') = false) := Lib.hid (by rw [decide_eq_false_iff_not]; rintro rfl; exact hne rfl)
    clear hne
    go_enter Tryd.func15, Tryd.ntmps15
    go_wp2
    go_ret
    exact ⟨by rw [HEB.out]; rfl, 0, rfl⟩
theorem drewN_below (w : World) (q : Nat) : Below w.heap.size w (w.drewN q) := below_drewN (Below.refl _ _) q
end Go.Proofs.YtdffldlcbihjmaaDoor

/- Stage 17: known: an ack and back; heavy. -/
namespace Go.Proofs.YtdffldlcbihjmaaDoor
open Go.RowKit Go.Sort

abbrev ack : Wd := wdOf 2 1 5 0 0 0 0 []
theorem ack_ok : okW ack = true := by decide
theorem ack_nums : numsR 3 (some (encW ack)) = ([2, 1, 5], some []) := by
  have h := numsR_enc [2, 1, 5] [] (by intro x hx; simp at hx; omega)
  have he : encW ack = numsE [2, 1, 5] := by
    show encW (wdOf 2 1 5 0 0 0 0 []) = _
    rw [encW_nums, if_neg (by decide), if_neg (by decide), List.append_nil]
  rw [he]
  rw [List.append_nil] at h
  exact h
theorem ack_plain {l : List Int} (h : frP l = encW ack) : plainW l = ack := by
  unfold plainW
  rw [h, ack_nums]
  rfl
set_option maxRecDepth 100000 in
set_option maxHeartbeats 4000000 in
theorem known17 (w : World) (ht : Nib w) : Calls Tryd.prog 17 #[] w fun e w' => e = .returned (.bool true) ∧ Below w.heap.size w w' := by
  have HE := Lib.hid (wd_enc 2 1 5 0 0 0 0 none 0 [] w ht (rowAt_nil w) (fun m hm => by cases hm) (fun m hm => by cases hm) (by simp) ack_ok)
  have HBD := Lib.hid (encW_bd ack_ok)
  have hbk : isBy (encW ack) := encW_by (w := ack) (fun r hr => by cases hr)
  have HFB := Lib.hid (frO_back hbk (by have := HBD.out.2; omega))
  have HFY := Lib.hid (frE_by hbk)
  have HT := Lib.hid (fun (W : World) (q : Below w.heap.size w W) => ht.below q)
  have HPL := Lib.hid (ack_plain HFB.out.2)
  clear ht hbk
  go_enter Tryd.func17, Tryd.ntmps17
  go_wp2_with fail
  refine HE.out.mono ?_; rintro e w1 ⟨⟨g, cap, rfl, hr⟩, k1⟩
  have hr' : Row8 w.heap.size w1 g cap (12 + (encW ack).length) (frE (encW ack)) := hr
  have hcl := hr'.cap_le
  have HD := Lib.hid (wd_dec_plain (some ⟨g, 0, none⟩) (frE (encW ack)) cap w1 (HT.out _ k1) hr'.by_ HFY.out (by rw [hr'.len]; have := HBD.out.2; omega) (by rw [hr'.len]; exact hcl.1) hcl.2 HFB.out.1 (by rw [HFB.out.2]; exact HBD.out.2) (by rw [HFB.out.2, ack_nums]; decide) (by rw [HFB.out.2, ack_nums]; decide))
  rw [hr'.len, HFB.out.2, HPL.out, decW_enc ack_ok] at HD
  have HB1 := Lib.hid k1
  have h12 : (3 : Int) < ((12 + (encW ack).length : Nat) : Int) := by omega
  have h12' : 3 < 12 + (encW ack).length := by omega
  clear hr hr' hcl k1 HE
  obtain ⟨n, hn⟩ : ∃ n, 12 + (encW ack).length = n := ⟨_, rfl⟩
  rw [hn] at HD h12 h12' ⊢
  clear hn
  go_wp2_with fail
  refine HD.out.mono ?_; rintro e w2 ⟨hd, k2⟩
  rcases hd with ⟨h0, _⟩ | ⟨_, rfl⟩
  · cases h0
  have hb2 := HB1.out.trans (k2.mono HB1.out.size)
  have HB3 := Lib.hid (hb2.alloc hb2.size (.cells (wdC 2 1 5 0 0 0 0 (.slice none 0 0)) 26))
  have HW := Lib.hid (fun (W : World) => law_words 2 1 5 0 0 0 0 2 1 5 0 0 0 0 none none 0 0 [] [] W (rowAt_nil W) (rowAt_nil W) (fun m hm => by cases hm) (fun m hm => by cases hm) (fun m hm => by cases hm) (fun m hm => by cases hm) (by simp))
  clear k2 hb2 HD
  go_wp2_with fail
  refine (HW.out _).mono ?_; rintro e w3 ⟨⟨b, rfl, hb⟩, k3⟩
  have hbt : b = true := hb.2 trivial
  subst hbt
  have HB4 := Lib.hid (HB3.out.trans (k3.mono HB3.out.size))
  clear k3 hb HW
  go_wp2
  go_ret
  exact ⟨rfl, HB4.out⟩
end Go.Proofs.YtdffldlcbihjmaaDoor

/- The reference's List (written by gen/reflist.py). -/
namespace Go.Proofs.YtdffldlcbihjmaaDoor
open Go.RowKit

/-- The row, and what was laid of the list. -/
structure GL (w wr : World) (v : Value) (rs : List Rc) (k : Nat) : Prop where
  g : G8 w wr v (encN rs.length ++ bodyE (rs.take k))
  ok : ∀ r ∈ rs.take k, okR r = true
theorem GL.len {w wr : World} {v : Value} {rs : List Rc} {k : Nat} (h : GL w wr v rs k) (hl : rs.length ≤ 64) : (encN rs.length ++ bodyE (rs.take k)).length ≤ 80000 := by
  have h1 := bodyE_len (rs.take k) (fun r hr => (ok_iff r).1 (h.ok r hr))
  have h2 := enc2_len (n := rs.length) (by omega)
  rw [List.length_take] at h1
  rw [List.length_append]
  have : min k rs.length * 1202 ≤ 64 * 1202 := Nat.mul_le_mul_right _ (by omega)
  omega
set_option maxRecDepth 100000 in
set_option maxHeartbeats 4000000 in
theorem ref_list (v : Value) (L : List Mr) (w : World) (h : RowAt w v L) (hat : ∀ m ∈ L, m.At (fun _ => True) w) (hky : ∀ m ∈ L, isBy m.r.key) (hl : L.length ≤ 100000) :
    Calls Tryd.prog 55 #[v] w fun e w' => LsRes (L.map Mr.r) w' e ∧ Below w.heap.size w w' := by
  obtain ⟨i0, hi0, hz0, hz1, hz2⟩ := info_parts u8_info
  obtain ⟨A, c, rfl, hc⟩ := h.ex
  have hni : (L.length : Int) ≤ 100000 := by omega
  have HC := Lib.hid hc
  have HA := Lib.hid (And.intro hat hky)
  clear h hc hat hky
  by_cases h64 : 64 < L.length
  · have t1 : decide ((64 : Int) < (L.length : Int)) = true := by simp; omega
    have HE := Lib.hid (ls_long (L := L.map Mr.r) (by simpa using h64))
    clear h64
    go_enter Tryd.func55, Tryd.ntmps55
    go_wp2
    go_ret2
    exact ⟨lsRes_none _ HE.out, Below.refl _ _⟩
  have t1 : decide ((64 : Int) < (L.length : Int)) = false := by simp; omega
  have H64 := Lib.hid h64
  have HN := Lib.hid (ref_num (L.length : Int) w (by omega) (by omega))
  clear h64
  go_enter Tryd.func55, Tryd.ntmps55
  go_wp2_with fail
  refine HN.out.mono ?_; rintro e W2 ⟨⟨g0, cp0, rfl, hown0⟩, k2⟩
  have HS : Hid (GL w W2 (.slice (some ⟨g0, 0, none⟩) (encN (L.length : Int).toNat).length cp0) (L.map Mr.r) 0) := Lib.hid ⟨⟨by simpa [bodyE] using hown0, k2⟩, fun r hr => by simp at hr⟩
  clear hown0 k2 HN
  go_wp2
  go_loopw [4, 5] (fun u i wr => ∃ (k : Nat), k ≤ L.length ∧ i = .int .i64 k ∧ GL w wr u (L.map Mr.r) k) (fun _ i _ => L.length - (intOf i).toNat)
  case atStart => exact ⟨0, Nat.zero_le _, rfl, by simpa using HS.out⟩
  case round =>
    obtain ⟨k, hk, rfl, hW⟩ := hrel
    clear HS
    obtain ⟨Av, cv, hus, hyv, hav, hcl⟩ := hW.g.row.bytes
    have HHL : Hid ((encN (L.map Mr.r).length ++ bodyE ((L.map Mr.r).take k)).length ≤ 80000) := Lib.hid (hW.len (by have := H64.out; simp; omega))
    have HG := Lib.hid hW.g
    have HKK := Lib.hid hW.ok
    clear hW
    obtain ⟨P0, hP0⟩ : ∃ P0, encN (L.map Mr.r).length ++ bodyE ((L.map Mr.r).take k) = P0 := ⟨_, rfl⟩
    have HP0 := Lib.hid hP0
    rw [hP0] at hus hyv hcl HHL HG
    clear hP0
    subst hus
    have hvm : cv ≤ maxLen := by
      rcases HG.out.row.2 with ⟨h, _⟩ | ⟨g', cap', cur, h, _, _, _, h2, _⟩
      · injection h with _ _ h3; unfold maxLen; omega
      · injection h with _ _ h3; omega
    have hcl' := hcl
    have HCV := Lib.hid (And.intro hcl (And.intro hvm hyv))
    clear hcl hyv hav hvm hcl'
    by_cases hlt : k < L.length
    · have lk : (k : Int) < (L.length : Int) := by omega
      have hi1 : ((k : Int).toNat) = k := by simp
      obtain ⟨B, O, rfl, hBl, hcell⟩ := HC.out (by omega)
      have hx : L[k]? = some L[k] := List.getElem?_eq_getElem hlt
      have hm := HA.out.1 L[k] (List.getElem_mem hlt)
      have hkb := HA.out.2 L[k] (List.getElem_mem hlt)
      have hmr : L[k].r ∈ L.map Mr.r := List.mem_map_of_mem (List.getElem_mem hlt)
      have htk : (L.map Mr.r).take (k + 1) = (L.map Mr.r).take k ++ [L[k].r] := by rw [List.take_succ_eq_append_getElem (by simpa using hlt)]; simp
      generalize L[k] = x at *
      have hB := HG.out.hb
      have a0 : wr.cell? ⟨B, O + k * 9, none⟩ = some (.int .i64 x.r.o) := (hB.cell (p := ⟨B, O + k * 9, none⟩) hBl).trans (hcell (k * 9) _ (by have := rowM_at hx 0 (by omega); rwa [Nat.add_zero] at this))
      have a1 : wr.cell? ⟨B, O + k * 9 + 1, none⟩ = some (.int .i64 x.r.s) := by rw [Nat.add_assoc]; exact (hB.cell (p := ⟨B, O + (k * 9 + 1), none⟩) hBl).trans (hcell _ _ (rowM_at hx 1 (by omega)))
      have a2 : wr.cell? ⟨B, O + k * 9 + 2, none⟩ = some (.string (strB x.r.key)) := by rw [Nat.add_assoc]; exact (hB.cell (p := ⟨B, O + (k * 9 + 2), none⟩) hBl).trans (hcell _ _ (rowM_at hx 2 (by omega)))
      have a3 : wr.cell? ⟨B, O + k * 9 + 3, none⟩ = some (.int .i64 x.r.ml) := by rw [Nat.add_assoc]; exact (hB.cell (p := ⟨B, O + (k * 9 + 3), none⟩) hBl).trans (hcell _ _ (rowM_at hx 3 (by omega)))
      have a4 : wr.cell? ⟨B, O + k * 9 + 4, none⟩ = some (.int .i64 x.r.ct) := by rw [Nat.add_assoc]; exact (hB.cell (p := ⟨B, O + (k * 9 + 4), none⟩) hBl).trans (hcell _ _ (rowM_at hx 4 (by omega)))
      have a5 : wr.cell? ⟨B, O + k * 9 + 5, none⟩ = some (.int .i64 x.r.vo) := by rw [Nat.add_assoc]; exact (hB.cell (p := ⟨B, O + (k * 9 + 5), none⟩) hBl).trans (hcell _ _ (rowM_at hx 5 (by omega)))
      have a6 : wr.cell? ⟨B, O + k * 9 + 6, none⟩ = some (.slice x.A x.r.val.length x.c) := by rw [Nat.add_assoc]; exact (hB.cell (p := ⟨B, O + (k * 9 + 6), none⟩) hBl).trans (hcell _ _ (rowM_at hx 6 (by omega)))
      have a7 : wr.cell? ⟨B, O + k * 9 + 7, none⟩ = some (.bool x.r.gone) := by rw [Nat.add_assoc]; exact (hB.cell (p := ⟨B, O + (k * 9 + 7), none⟩) hBl).trans (hcell _ _ (rowM_at hx 7 (by omega)))
      have a8 : wr.cell? ⟨B, O + k * 9 + 8, none⟩ = some (.int .i64 x.r.tt) := by rw [Nat.add_assoc]; exact (hB.cell (p := ⟨B, O + (k * 9 + 8), none⟩) hBl).trans (hcell _ _ (rowM_at hx 8 (by omega)))
      have hKs : kL (strB x.r.key) = x.r.key := kL_str hkb
      have HOK : Hid (okR x.r = okN x.r.o x.r.s (strB x.r.key).size x.r.ml x.r.ct x.r.vo x.r.val.length x.r.gone x.r.tt) := Lib.hid (by rw [okR_n, strB_size])
      have HM : Hid (ByL wr x.A x.r.val ∧ (x.A = none → x.r.val.length = 0)) := Lib.hid ⟨hm.b.below hB, hm.n⟩
      have HKS := Lib.hid (And.intro hKs (And.intro hmr htk))
      have HB := Lib.hid hB
      clear hm hkb hcell hx hB hKs hmr htk
      cases hok : okR x.r
      · have HE := Lib.hid (ls_bad (L := L.map Mr.r) (by simpa using H64.out) HKS.out.2.1 hok)
        have HN := Lib.hid (ref_enc_no x.r.o x.r.s (strB x.r.key) x.r.ml x.r.ct x.r.vo x.A x.r.val.length x.c x.r.gone x.r.tt wr (by rw [← HOK.out]; exact hok))
        clear hok HM HKS HG HKK
        go_wp2_with fail
        refine HN.out.mono ?_; rintro e W3 ⟨rfl, k3⟩
        have HB3 := Lib.hid (HB.out.trans (k3.mono HB.out.size))
        clear k3 HN a0 a1 a2 a3 a4 a5 a6 a7 a8
        go_wp2
        go_ret2
        exact ⟨lsRes_none _ HE.out, HB3.out⟩
      · have HN := Lib.hid (ref_enc_yes x.r.o x.r.s (strB x.r.key) x.r.ml x.r.ct x.r.vo x.A x.r.val x.c x.r.gone x.r.tt wr (by rw [← HOK.out]; exact hok) HM.out.1 HM.out.2)
        rw [HKS.out.1] at HN
        have HEL : Hid ((encR x.r).length ≤ 1200) := Lib.hid (encR_len _ ((ok_iff _).1 hok))
        have HOKR := Lib.hid hok
        clear hok
        go_wp2_with fail
        refine HN.out.mono ?_; rintro e W3 ⟨g, cap, rfl, hown, k3⟩
        change Own8 _ W3 (.slice (some ⟨g, 0, none⟩) (encR x.r).length cap) (encR x.r) at hown
        obtain ⟨A1, c1, e1, y1, b1, l1⟩ := Own8.bytes hown
        obtain ⟨rfl, rfl⟩ : some (⟨g, 0, none⟩ : Addr) = A1 ∧ cap = c1 := by injection e1 with q1 q2 q3; exact ⟨q1, q3⟩
        have HG3 := Lib.hid (HG.out.below k3)
        have HBT := Lib.hid (ref_bytes cap (some ⟨g, 0, none⟩) (encR x.r) W3 y1 (fun e => by cases e) (by have := HEL.out; omega))
        have HLR : Hid (0 < (encN (encR x.r).length ++ encR x.r).length ∧ (encN (encR x.r).length ++ encR x.r).length ≤ 1202) := Lib.hid (by
          have h2 := HEL.out
          have h3 := enc2_len h2
          have h4 := encN_len0 (encR x.r).length
          rw [List.length_append]
          omega)
        have hz3 := k3.size
        clear hown y1 b1 l1 e1 k3 HN HM a0 a1 a2 a3 a4 a5 a6 a7 a8
        go_wp2_with fail
        refine HBT.out.mono ?_; rintro e W4 ⟨⟨g2, cp2, rfl, hown2⟩, k4⟩
        have HG4 := Lib.hid (HG3.out.below k4)
        have hsrc := Own8.src hown2
        have hrow := HG4.out.row
        have hlen4 : w.heap.size ≤ W4.heap.size := HG4.out.hb.size
        have HPB : Hid (encN (encR x.r).length ++ encR x.r = encN (encR x.r).length ++ encR x.r) := Lib.hid rfl
        have q1 := HLR.out.1
        have q2 := HLR.out.2
        have q3 := HHL.out
        have HOKT : Hid (∀ P v, G8 w P v (P0 ++ (encN (encR x.r).length ++ encR x.r)) → GL w P v (L.map Mr.r) (k + 1)) := Lib.hid (fun P v h => ⟨by
            rw [HKS.out.2.2, bodyE_snoc, ← List.append_assoc, HP0.out]
            exact h, fun r hr => by
            rw [HKS.out.2.2] at hr
            rcases List.mem_append.1 hr with q | q
            · exact HKK.out r q
            · rw [List.mem_singleton.1 q]; exact HOKR.out⟩)
        clear hown2 k4 HBT HG3 HKS HKK HG
        generalize hP1 : encN (encR x.r).length ++ encR x.r = P1 at *
        clear hP1
        go_wp2_with (at_builtin; refine wpList_append_lies _ rfl (.tmp 30) (.tmp 32) _ rfl w.heap.size 5 i0 _ 1 1 Tryd.underlying28 hi0 hz0 hz1 hz2 rfl (by decide) (.slice Av P0.length cv) P0.length (bC P0) rfl hrow ⟨g2, 0, none⟩ P1.length cp2 (bC P1) rfl (by rw [bC_len]; omega) hsrc (bC_one _) q1 (by unfold maxLen; omega) (by omega) hlen4 _ rfl ?_; intro g5 cap5 W5 hown5 hg5 hat5 hlt5)
        have HF := Lib.hid (HOKT.out W5 _ (HG4.out.app (r := P1) (Below.refl _ _) (by omega) hown5 hg5))
        clear hown5 hg5 hat5 hlt5 hrow hsrc HG4 HOKT
        (try go_wp2)
        go_roundw
        case rel => exact ⟨k + 1, by omega, by go_num, HF.out⟩
        case measure => simp [intOf]; omega
    · obtain rfl : k = L.length := by omega
      have hall : (L.map Mr.r).take L.length = L.map Mr.r := List.take_of_length_le (by simp)
      have HE := Lib.hid (ls_yes (L := L.map Mr.r) (by simpa using H64.out) (fun r hr => HKK.out r (by rw [hall]; exact hr)))
      have HB3 := Lib.hid HG.out.hb
      have hPE := HP0.out
      rw [hall] at hPE
      have hlen0 : Av = none → P0.length = 0 ∧ cv = 0 := fun e => by
        subst e
        rcases HG.out.row.2 with ⟨h, h0⟩ | ⟨g', cap', cur, h, _⟩
        · injection h with _ _ h3; exact ⟨h0, h3⟩
        · cases h
      have HF : Hid (LsRes (L.map Mr.r) wr (.returned (.tuple #[.slice Av P0.length cv, .int .i64 0]))) := Lib.hid (by
        unfold LsRes
        rw [HE.out.1, HE.out.2, hPE]
        exact ⟨_, cv, rfl, HCV.out.2.2, hlen0, HCV.out.1, HCV.out.2.1⟩)
      clear hall hlt HE HCV HHL hlen0 hPE HP0 HG HKK
      go_wp2
      go_ret2
      exact ⟨HF.out, HB3.out⟩
end Go.Proofs.YtdffldlcbihjmaaDoor

/- The reference's Encode of a word (written by gen/refwdenc.py). -/
namespace Go.Proofs.YtdffldlcbihjmaaDoor
open Go.RowKit Go.Sort

theorem ref_frame_n (cc n : Nat) (A : Option Addr) (p : List Int) (w : World) (hn : p.length = n) (hp : ByL w A p) (hb : isBy p) (hp0 : 0 < p.length) (hl : p.length ≤ 262144) :
    Calls Tryd.prog 56 #[.slice A n cc] w fun e w' => (∃ g2 cap2, e = .returned (.tuple #[.slice (some ⟨g2, 0, none⟩) (12 + n) cap2, .int .i64 0]) ∧ Row8 w.heap.size w' g2 cap2 (12 + n) (frE p)) ∧ Below w.heap.size w w' := by
  subst hn
  exact ref_frame cc A p w hp hb hp0 hl
theorem enc_res_of {W : Wd} {P : List Int} {n : Nat} {w w' : World} {e : Ending} (h : encW W = P) (hn : P.length = n) (hr : ∃ g2 cap2, e = .returned (.tuple #[.slice (some ⟨g2, 0, none⟩) (12 + n) cap2, .int .i64 0]) ∧ Row8 w.heap.size w' g2 cap2 (12 + n) (frE P)) : EncRes W w w' e := by
  subst hn h
  exact hr
set_option maxRecDepth 100000 in
set_option maxHeartbeats 4000000 in
theorem rwd_enc_no (k o s m1 c1 m2 c2 : Int) (A : Option Addr) (c : Nat) (L : List Mr) (w : World) (hrow : RowAt w (.slice A L.length c) L) (hkb : ∀ m ∈ L, isBy m.r.key) (hl : L.length ≤ 100000) (h : okW (wdOf k o s m1 c1 m2 c2 L) = false) :
    Calls Tryd.prog 14 #[wdV k o s m1 c1 m2 c2 (.slice A L.length c)] w fun e w' => e = .returned (.tuple #[.slice none 0 0, .int .i64 1]) ∧ Below w.heap.size w w' := by
  have hb0 : Below w.heap.size w (w.alloc (.cells (wdC k o s m1 c1 m2 c2 (.slice A L.length c)) 34)) := by (repeat' (first | (with_reducible exact Below.refl _ _) | (with_reducible assumption) | (with_reducible refine Below.trans ?_ (Below.mono (by with_reducible assumption) ?_)) | (with_reducible refine Below.alloc ?_ ?_ _) | (with_reducible refine Below.setCell ?_ ?_ _) | (with_reducible refine below_drewN ?_ _) | (with_reducible refine Below.drew ?_) | go_size))
  have HI := Lib.hid (ref17_is k o s m1 c1 m2 c2 A c L _ (hrow.below hb0) hkb hl)
  rw [h] at HI
  have X0 := Lib.hid (Wd8.new w 34 k o s m1 c1 m2 c2 (.slice A L.length c))
  have HB0 := Lib.hid hb0
  clear h hrow hkb hl hb0
  go_enter Tryd.func14, Tryd.ntmps14
  go_wp2_with fail
  refine HI.out.mono ?_; rintro e w1 ⟨rfl, k1⟩
  have HB1 := Lib.hid (HB0.out.trans (k1.mono HB0.out.size))
  clear k1 HI
  go_wp2
  go_ret2
  exact ⟨rfl, HB1.out⟩
set_option maxRecDepth 100000 in
set_option maxHeartbeats 4000000 in
theorem rwd_enc_2 (o s m1 c1 m2 c2 : Int) (A : Option Addr) (c : Nat) (L : List Mr) (w : World) (hrow : RowAt w (.slice A L.length c) L) (hat : ∀ m ∈ L, m.At (fun _ => True) w) (hkb : ∀ m ∈ L, isBy m.r.key ∧ isBy m.r.val) (hl : L.length ≤ 100000) (h : okW (wdOf 2 o s m1 c1 m2 c2 L) = true) :
    Calls Tryd.prog 14 #[wdV 2 o s m1 c1 m2 c2 (.slice A L.length c)] w fun e w' => EncRes (wdOf 2 o s m1 c1 m2 c2 L) w w' e ∧ Below w.heap.size w w' := by
  obtain ⟨i0, hi0, hz0, hz1, hz2⟩ := info_parts u8_info
  have hb0 : Below w.heap.size w (w.alloc (.cells (wdC 2 o s m1 c1 m2 c2 (.slice A L.length c)) 34)) := by (repeat' (first | (with_reducible exact Below.refl _ _) | (with_reducible assumption) | (with_reducible refine Below.trans ?_ (Below.mono (by with_reducible assumption) ?_)) | (with_reducible refine Below.alloc ?_ ?_ _) | (with_reducible refine Below.setCell ?_ ?_ _) | (with_reducible refine below_drewN ?_ _) | (with_reducible refine Below.drew ?_) | go_size))
  have HI := Lib.hid (ref17_is 2 o s m1 c1 m2 c2 A c L _ (hrow.below hb0) (fun m hm => (hkb m hm).1) hl)
  rw [h] at HI
  have X0 := Lib.hid (Wd8.new w 34 2 o s m1 c1 m2 c2 (.slice A L.length c))
  have HB0 := Lib.hid hb0
  have HBD := Lib.hid (encW_bd h)
  have HBY : Hid (isBy (encW (wdOf 2 o s m1 c1 m2 c2 L))) := Lib.hid (encW_by (fun r hr => by
    obtain ⟨m, hm, rfl⟩ := List.mem_map.1 hr
    exact hkb m hm))
  have hh := headW_bd (okW_kind h).1
  have HZ : Hid (∀ x ∈ [(2 : Int), o, s], 0 ≤ x ∧ x ≤ 4611686018427387904) := Lib.hid (by
    have q : 0 ≤ o ∧ o < 5 ∧ 0 ≤ s ∧ s ≤ 1099511627776 := hh
    intro x hx
    simp at hx
    rcases hx with rfl | rfl | rfl <;> omega)
  have HZL := Lib.hid (numsE_len _ HZ.out)
  have HZ3 : Hid (∀ (g : Nat) (W : World), g < W.heap.size → (∀ (j : Nat) (q : j < [(2 : Int), o, s].length), W.cell? ⟨g, j, none⟩ = some (.int .i64 [(2 : Int), o, s][j])) → Calls Tryd.prog 54 #[.slice (some ⟨g, 0, none⟩) 3 3] W fun e w' => Told8 (numsE [(2 : Int), o, s]) W w' e ∧ Below W.heap.size W w') := Lib.hid (fun g W hg hq => ref_nums g 3 [2, o, s] W hg (by simp) hq HZ.out (by simp) (by have := HZL.out; simp at this; omega))
  obtain ⟨P0, hP0⟩ : ∃ P0, numsE [(2 : Int), o, s] = P0 := ⟨_, rfl⟩
  have HP0 := Lib.hid hP0
  rw [hP0] at HZ3
  clear h hb0 hrow hat hkb hl hh hP0
  go_enter Tryd.func14, Tryd.ntmps14
  go_wp2_with fail
  refine HI.out.mono ?_; rintro e w1 ⟨rfl, k1⟩
  have hb1 := HB0.out.trans (k1.mono HB0.out.size)
  have x1 := X0.out.below k1
  have kA : Below w1.heap.size w1 (w1.alloc (.cells #[.int .i64 2, .int .i64 o, .int .i64 s] 3)) := (Below.refl _ _).alloc (Nat.le_refl _) _
  have HXA := Lib.hid (x1.below kA)
  have HBA := Lib.hid (hb1.trans (kA.mono hb1.size))
  obtain ⟨y0, y1, y2, y3, y4, y5, y6, y7, ylt⟩ := x1
  have HN := Lib.hid (HZ3.out w1.heap.size (w1.alloc (.cells #[.int .i64 2, .int .i64 o, .int .i64 s] 3)) (by simp) (by intro j q; rcases (show j = 0 ∨ j = 1 ∨ j = 2 from by simp at q; omega) with rfl | rfl | rfl <;> simp))
  have hw1 := hb1.size
  clear k1 hb1 kA HI X0 HB0 HZ3
  go_wp2_with fail
  refine HN.out.mono ?_; rintro e w2 ⟨⟨g, cap, rfl, hown⟩, k2⟩
  have HG2 : Hid (G8 w w2 (.slice (some ⟨g, 0, none⟩) P0.length cap) P0) := Lib.hid ⟨own_base (base' := w.heap.size) (by simp; omega) hown, HBA.out.trans (k2.mono HBA.out.size)⟩
  have HX2 := Lib.hid (HXA.out.below k2)
  clear hown k2 HN HXA HBA y0 y1 y2 y3 y4 y5 y6 y7 ylt hw1
  obtain ⟨y0, y1, y2, y3, y4, y5, y6, y7, ylt⟩ := HX2.out
  have HEW : Hid (encW (wdOf 2 o s m1 c1 m2 c2 L) = P0) := Lib.hid (by rw [encW_nums, if_neg (by decide), if_neg (by decide), List.append_nil, HP0.out])
  have HLN : Hid ((P0).length = P0.length) := Lib.hid (by first | rfl | exact List.length_append)
  have HF : Hid (Calls Tryd.prog 56 #[.slice (some ⟨g, 0, none⟩) (P0.length) cap] w2 fun e w' => (∃ g2 cap2, e = .returned (.tuple #[.slice (some ⟨g2, 0, none⟩) (12 + (P0.length)) cap2, .int .i64 0]) ∧ Row8 w2.heap.size w' g2 cap2 (12 + (P0.length)) (frE (P0))) ∧ Below w2.heap.size w2 w') := Lib.hid (by
    have hgr := HG2.out.row
    have hby := HBY.out
    have hbd := HBD.out
    rw [HEW.out] at hby hbd
    obtain ⟨A5, c5, e5, hy5, _⟩ := Own8.bytes hgr
    obtain ⟨rfl, rfl⟩ : some (⟨g, 0, none⟩ : Addr) = A5 ∧ cap = c5 := by injection e5 with q1 q2 q3; exact ⟨q1, q3⟩
    exact ref_frame_n cap _ _ (P0) w2 HLN.out hy5 hby hbd.1 (by omega))
  have HBZ := Lib.hid HG2.out.hb
  clear HG2
  go_wp2_with fail
  refine HF.out.mono ?_; rintro e w6 ⟨⟨g6, cap6, rfl, hr6⟩, k6⟩
  have HB6 := Lib.hid (HBZ.out.trans (k6.mono HBZ.out.size))
  have HR6 := Lib.hid (hr6.base (b2 := w.heap.size) HBZ.out.size)
  clear hr6 k6 HF
  go_wp2
  go_ret2
  exact ⟨enc_res_of HEW.out (by first | exact HLN.out | rfl) ⟨g6, cap6, rfl, HR6.out⟩, HB6.out⟩
set_option maxRecDepth 100000 in
set_option maxHeartbeats 4000000 in
theorem rwd_enc_3 (o s m1 c1 m2 c2 : Int) (A : Option Addr) (c : Nat) (L : List Mr) (w : World) (hrow : RowAt w (.slice A L.length c) L) (hat : ∀ m ∈ L, m.At (fun _ => True) w) (hkb : ∀ m ∈ L, isBy m.r.key ∧ isBy m.r.val) (hl : L.length ≤ 100000) (h : okW (wdOf 3 o s m1 c1 m2 c2 L) = true) :
    Calls Tryd.prog 14 #[wdV 3 o s m1 c1 m2 c2 (.slice A L.length c)] w fun e w' => EncRes (wdOf 3 o s m1 c1 m2 c2 L) w w' e ∧ Below w.heap.size w w' := by
  obtain ⟨i0, hi0, hz0, hz1, hz2⟩ := info_parts u8_info
  have hb0 : Below w.heap.size w (w.alloc (.cells (wdC 3 o s m1 c1 m2 c2 (.slice A L.length c)) 34)) := by (repeat' (first | (with_reducible exact Below.refl _ _) | (with_reducible assumption) | (with_reducible refine Below.trans ?_ (Below.mono (by with_reducible assumption) ?_)) | (with_reducible refine Below.alloc ?_ ?_ _) | (with_reducible refine Below.setCell ?_ ?_ _) | (with_reducible refine below_drewN ?_ _) | (with_reducible refine Below.drew ?_) | go_size))
  have HI := Lib.hid (ref17_is 3 o s m1 c1 m2 c2 A c L _ (hrow.below hb0) (fun m hm => (hkb m hm).1) hl)
  rw [h] at HI
  have X0 := Lib.hid (Wd8.new w 34 3 o s m1 c1 m2 c2 (.slice A L.length c))
  have HB0 := Lib.hid hb0
  have HBD := Lib.hid (encW_bd h)
  have HBY : Hid (isBy (encW (wdOf 3 o s m1 c1 m2 c2 L))) := Lib.hid (encW_by (fun r hr => by
    obtain ⟨m, hm, rfl⟩ := List.mem_map.1 hr
    exact hkb m hm))
  have hh := headW_bd (okW_kind h).1
  have HZ : Hid (∀ x ∈ [(3 : Int), o, s], 0 ≤ x ∧ x ≤ 4611686018427387904) := Lib.hid (by
    have q : 0 ≤ o ∧ o < 5 ∧ 0 ≤ s ∧ s ≤ 1099511627776 := hh
    intro x hx
    simp at hx
    rcases hx with rfl | rfl | rfl <;> omega)
  have HZL := Lib.hid (numsE_len _ HZ.out)
  have HZ3 : Hid (∀ (g : Nat) (W : World), g < W.heap.size → (∀ (j : Nat) (q : j < [(3 : Int), o, s].length), W.cell? ⟨g, j, none⟩ = some (.int .i64 [(3 : Int), o, s][j])) → Calls Tryd.prog 54 #[.slice (some ⟨g, 0, none⟩) 3 3] W fun e w' => Told8 (numsE [(3 : Int), o, s]) W w' e ∧ Below W.heap.size W w') := Lib.hid (fun g W hg hq => ref_nums g 3 [3, o, s] W hg (by simp) hq HZ.out (by simp) (by have := HZL.out; simp at this; omega))
  obtain ⟨P0, hP0⟩ : ∃ P0, numsE [(3 : Int), o, s] = P0 := ⟨_, rfl⟩
  have HP0 := Lib.hid hP0
  have HZ4 : Hid (∀ x ∈ [m1, c1, m2, c2], 0 ≤ x ∧ x ≤ 4611686018427387904) := Lib.hid (by
    rcases (okW_kind h).2 with ⟨q, _⟩ | ⟨q, _⟩ | ⟨_, q1, q2, _⟩
    · exact absurd q (by simp [wdOf])
    · exact absurd q (by simp [wdOf])
    · have b1 : 0 ≤ m1 ∧ m1 ≤ 281474976710655 ∧ 0 ≤ c1 ∧ c1 ≤ 65535 := stamp_bdW q1
      have b2 : 0 ≤ m2 ∧ m2 ≤ 281474976710655 ∧ 0 ≤ c2 ∧ c2 ≤ 65535 := stamp_bdW q2
      intro x hx
      simp at hx
      rcases hx with rfl | rfl | rfl | rfl <;> omega)
  have HZ4L := Lib.hid (numsE_len _ HZ4.out)
  have HN4 : Hid (∀ (g : Nat) (W : World), g < W.heap.size → (∀ (j : Nat) (q : j < [m1, c1, m2, c2].length), W.cell? ⟨g, j, none⟩ = some (.int .i64 [m1, c1, m2, c2][j])) → Calls Tryd.prog 54 #[.slice (some ⟨g, 0, none⟩) 4 4] W fun e w' => Told8 (numsE [m1, c1, m2, c2]) W w' e ∧ Below W.heap.size W w') := Lib.hid (fun g W hg hq => ref_nums g 4 [m1, c1, m2, c2] W hg (by simp) hq HZ4.out (by simp) (by have := HZ4L.out; simp at this; omega))
  obtain ⟨Q, hQ⟩ : ∃ Q, numsE [m1, c1, m2, c2] = Q := ⟨_, rfl⟩
  have HQE := Lib.hid hQ
  have HQ : Hid (0 < Q.length ∧ Q.length ≤ 1000) := Lib.hid (by
    have h1 := HZ4L.out
    have h2 := encN_len0 m1.toNat
    rw [← hQ]
    refine ⟨by rw [numsE_cons, List.length_append]; omega, by simp at h1; omega⟩)
  have HPM : Hid (P0.length ≤ 1000) := Lib.hid (by rw [← hP0]; have := HZL.out; simp at this; omega)
  rw [hQ] at HN4
  clear hQ
  rw [hP0] at HZ3
  clear h hb0 hrow hat hkb hl hh hP0
  go_enter Tryd.func14, Tryd.ntmps14
  go_wp2_with fail
  refine HI.out.mono ?_; rintro e w1 ⟨rfl, k1⟩
  have hb1 := HB0.out.trans (k1.mono HB0.out.size)
  have x1 := X0.out.below k1
  have kA : Below w1.heap.size w1 (w1.alloc (.cells #[.int .i64 3, .int .i64 o, .int .i64 s] 3)) := (Below.refl _ _).alloc (Nat.le_refl _) _
  have HXA := Lib.hid (x1.below kA)
  have HBA := Lib.hid (hb1.trans (kA.mono hb1.size))
  obtain ⟨y0, y1, y2, y3, y4, y5, y6, y7, ylt⟩ := x1
  have HN := Lib.hid (HZ3.out w1.heap.size (w1.alloc (.cells #[.int .i64 3, .int .i64 o, .int .i64 s] 3)) (by simp) (by intro j q; rcases (show j = 0 ∨ j = 1 ∨ j = 2 from by simp at q; omega) with rfl | rfl | rfl <;> simp))
  have hw1 := hb1.size
  clear k1 hb1 kA HI X0 HB0 HZ3
  go_wp2_with fail
  refine HN.out.mono ?_; rintro e w2 ⟨⟨g, cap, rfl, hown⟩, k2⟩
  have HG2 : Hid (G8 w w2 (.slice (some ⟨g, 0, none⟩) P0.length cap) P0) := Lib.hid ⟨own_base (base' := w.heap.size) (by simp; omega) hown, HBA.out.trans (k2.mono HBA.out.size)⟩
  have HX2 := Lib.hid (HXA.out.below k2)
  clear hown k2 HN HXA HBA y0 y1 y2 y3 y4 y5 y6 y7 ylt hw1
  obtain ⟨y0, y1, y2, y3, y4, y5, y6, y7, ylt⟩ := HX2.out
  have kB : Below w2.heap.size w2 (w2.alloc (.cells #[.int .i64 m1, .int .i64 c1, .int .i64 m2, .int .i64 c2] 3)) := (Below.refl _ _).alloc (Nat.le_refl _) _
  have HGB := Lib.hid (HG2.out.below kB)
  have HXB := Lib.hid (HX2.out.below kB)
  have HC4 := Lib.hid (HN4.out w2.heap.size (w2.alloc (.cells #[.int .i64 m1, .int .i64 c1, .int .i64 m2, .int .i64 c2] 3)) (by simp) (by intro j q; rcases (show j = 0 ∨ j = 1 ∨ j = 2 ∨ j = 3 from by simp at q; omega) with rfl | rfl | rfl | rfl <;> simp))
  clear kB HG2 HN4
  go_wp2_with fail
  refine HC4.out.mono ?_; rintro e w3 ⟨⟨gq, cq, rfl, hownq⟩, k3⟩
  have HG3 := Lib.hid (HGB.out.below k3)
  have hrow3 := HG3.out.row
  have hsrc3 := (show ∀ j u, (bC Q)[j]? = some u → w3.cell? ((⟨gq, 0, none⟩ : Addr).add j) = some u from Own8.src hownq)
  have z3 := HG3.out.hb.size
  clear hownq k3 HC4 HGB HX2 HXB y0 y1 y2 y3 y4 y5 y6 y7 ylt
  have hq0 := HQ.out.1
  have hqm := HQ.out.2
  have hp0m := HPM.out
  go_wp2_with (at_builtin; refine wpList_append_lies _ rfl (.tmp 33) (.tmp 47) _ rfl w.heap.size 5 i0 _ 1 1 Tryd.underlying28 hi0 hz0 hz1 hz2 rfl (by decide) (.slice (some ⟨g, 0, none⟩) P0.length cap) P0.length _ rfl hrow3 ⟨gq, 0, none⟩ Q.length cq (bC Q) rfl (by rw [bC_len]; omega) hsrc3 (bC_one _) hq0 (by unfold maxLen; omega) (by first | omega | (simp; omega)) (by first | omega | (simp; omega)) _ rfl ?_; intro gz capz w4 hown4 hg4 hat4 hlt4)
  have HG4 : Hid (G8 w w4 (.slice (some ⟨gz, 0, none⟩) (P0.length + Q.length) capz) (P0 ++ Q)) := Lib.hid (HG3.out.app (Below.refl _ _) rfl hown4 hg4)
  clear hown4 hg4 hat4 hlt4 hrow3 hsrc3 HG3
  have HEW : Hid (encW (wdOf 3 o s m1 c1 m2 c2 L) = P0 ++ Q) := Lib.hid (by rw [encW_nums, if_neg (by decide), if_pos rfl, HP0.out, HQE.out])
  have HLN : Hid ((P0 ++ Q).length = P0.length + Q.length) := Lib.hid (by first | rfl | exact List.length_append)
  have HF : Hid (Calls Tryd.prog 56 #[.slice (some ⟨gz, 0, none⟩) (P0.length + Q.length) capz] w4 fun e w' => (∃ g2 cap2, e = .returned (.tuple #[.slice (some ⟨g2, 0, none⟩) (12 + (P0.length + Q.length)) cap2, .int .i64 0]) ∧ Row8 w4.heap.size w' g2 cap2 (12 + (P0.length + Q.length)) (frE (P0 ++ Q))) ∧ Below w4.heap.size w4 w') := Lib.hid (by
    have hgr := HG4.out.row
    have hby := HBY.out
    have hbd := HBD.out
    rw [HEW.out] at hby hbd
    obtain ⟨A5, c5, e5, hy5, _⟩ := Own8.bytes hgr
    obtain ⟨rfl, rfl⟩ : some (⟨gz, 0, none⟩ : Addr) = A5 ∧ capz = c5 := by injection e5 with q1 q2 q3; exact ⟨q1, q3⟩
    exact ref_frame_n capz _ _ (P0 ++ Q) w4 HLN.out hy5 hby hbd.1 (by omega))
  have HBZ := Lib.hid HG4.out.hb
  clear HG4
  go_wp2_with fail
  refine HF.out.mono ?_; rintro e w6 ⟨⟨g6, cap6, rfl, hr6⟩, k6⟩
  have HB6 := Lib.hid (HBZ.out.trans (k6.mono HBZ.out.size))
  have HR6 := Lib.hid (hr6.base (b2 := w.heap.size) HBZ.out.size)
  clear hr6 k6 HF
  go_wp2
  go_ret2
  exact ⟨enc_res_of HEW.out (by first | exact HLN.out | rfl) ⟨g6, cap6, rfl, HR6.out⟩, HB6.out⟩
set_option maxRecDepth 100000 in
set_option maxHeartbeats 4000000 in
theorem rwd_enc_1 (o s m1 c1 m2 c2 : Int) (A : Option Addr) (c : Nat) (L : List Mr) (w : World) (hrow : RowAt w (.slice A L.length c) L) (hat : ∀ m ∈ L, m.At (fun _ => True) w) (hkb : ∀ m ∈ L, isBy m.r.key ∧ isBy m.r.val) (hl : L.length ≤ 100000) (h : okW (wdOf 1 o s m1 c1 m2 c2 L) = true) :
    Calls Tryd.prog 14 #[wdV 1 o s m1 c1 m2 c2 (.slice A L.length c)] w fun e w' => EncRes (wdOf 1 o s m1 c1 m2 c2 L) w w' e ∧ Below w.heap.size w w' := by
  obtain ⟨i0, hi0, hz0, hz1, hz2⟩ := info_parts u8_info
  have hb0 : Below w.heap.size w (w.alloc (.cells (wdC 1 o s m1 c1 m2 c2 (.slice A L.length c)) 34)) := by (repeat' (first | (with_reducible exact Below.refl _ _) | (with_reducible assumption) | (with_reducible refine Below.trans ?_ (Below.mono (by with_reducible assumption) ?_)) | (with_reducible refine Below.alloc ?_ ?_ _) | (with_reducible refine Below.setCell ?_ ?_ _) | (with_reducible refine below_drewN ?_ _) | (with_reducible refine Below.drew ?_) | go_size))
  have HI := Lib.hid (ref17_is 1 o s m1 c1 m2 c2 A c L _ (hrow.below hb0) (fun m hm => (hkb m hm).1) hl)
  rw [h] at HI
  have X0 := Lib.hid (Wd8.new w 34 1 o s m1 c1 m2 c2 (.slice A L.length c))
  have HB0 := Lib.hid hb0
  have HBD := Lib.hid (encW_bd h)
  have HBY : Hid (isBy (encW (wdOf 1 o s m1 c1 m2 c2 L))) := Lib.hid (encW_by (fun r hr => by
    obtain ⟨m, hm, rfl⟩ := List.mem_map.1 hr
    exact hkb m hm))
  have hh := headW_bd (okW_kind h).1
  have HZ : Hid (∀ x ∈ [(1 : Int), o, s], 0 ≤ x ∧ x ≤ 4611686018427387904) := Lib.hid (by
    have q : 0 ≤ o ∧ o < 5 ∧ 0 ≤ s ∧ s ≤ 1099511627776 := hh
    intro x hx
    simp at hx
    rcases hx with rfl | rfl | rfl <;> omega)
  have HZL := Lib.hid (numsE_len _ HZ.out)
  have HZ3 : Hid (∀ (g : Nat) (W : World), g < W.heap.size → (∀ (j : Nat) (q : j < [(1 : Int), o, s].length), W.cell? ⟨g, j, none⟩ = some (.int .i64 [(1 : Int), o, s][j])) → Calls Tryd.prog 54 #[.slice (some ⟨g, 0, none⟩) 3 3] W fun e w' => Told8 (numsE [(1 : Int), o, s]) W w' e ∧ Below W.heap.size W w') := Lib.hid (fun g W hg hq => ref_nums g 3 [1, o, s] W hg (by simp) hq HZ.out (by simp) (by have := HZL.out; simp at this; omega))
  obtain ⟨P0, hP0⟩ : ∃ P0, numsE [(1 : Int), o, s] = P0 := ⟨_, rfl⟩
  have HP0 := Lib.hid hP0
  have HLST : Hid (∀ W, Below w.heap.size w W → Calls Tryd.prog 55 #[.slice A L.length c] W fun e w' => LsRes (L.map Mr.r) w' e ∧ Below W.heap.size W w') := Lib.hid (fun W q => ref_list _ L W (hrow.below q) (fun m hm => (hat m hm).below q) (fun m hm => (hkb m hm).1) hl)
  have HLC : Hid (lsC (L.map Mr.r) = 0 ∧ 0 < (lsV (L.map Mr.r)).length) := Lib.hid (by
    rcases (okW_kind h).2 with ⟨_, _, q, _, q64⟩ | ⟨q, _⟩ | ⟨q, _⟩
    · refine ⟨lsC_ok q64 (rowB_ok _ _ _ q), ?_⟩
      have h9 : lsV (L.map Mr.r) = encN (L.map Mr.r).length ++ bodyE (L.map Mr.r) := (ls_yes (by have : (L.map Mr.r).length ≤ 64 := q64; omega) (rowB_ok _ _ _ q)).1
      rw [h9, List.length_append]
      have := encN_len0 (L.map Mr.r).length
      omega
    · exact absurd q (by simp [wdOf])
    · exact absurd q (by simp [wdOf]))
  have HPM : Hid (P0.length ≤ 1000) := Lib.hid (by rw [← hP0]; have := HZL.out; simp at this; omega)
  rw [hP0] at HZ3
  clear h hb0 hrow hat hkb hl hh hP0
  go_enter Tryd.func14, Tryd.ntmps14
  go_wp2_with fail
  refine HI.out.mono ?_; rintro e w1 ⟨rfl, k1⟩
  have hb1 := HB0.out.trans (k1.mono HB0.out.size)
  have x1 := X0.out.below k1
  have kA : Below w1.heap.size w1 (w1.alloc (.cells #[.int .i64 1, .int .i64 o, .int .i64 s] 3)) := (Below.refl _ _).alloc (Nat.le_refl _) _
  have HXA := Lib.hid (x1.below kA)
  have HBA := Lib.hid (hb1.trans (kA.mono hb1.size))
  obtain ⟨y0, y1, y2, y3, y4, y5, y6, y7, ylt⟩ := x1
  have HN := Lib.hid (HZ3.out w1.heap.size (w1.alloc (.cells #[.int .i64 1, .int .i64 o, .int .i64 s] 3)) (by simp) (by intro j q; rcases (show j = 0 ∨ j = 1 ∨ j = 2 from by simp at q; omega) with rfl | rfl | rfl <;> simp))
  have hw1 := hb1.size
  clear k1 hb1 kA HI X0 HB0 HZ3
  go_wp2_with fail
  refine HN.out.mono ?_; rintro e w2 ⟨⟨g, cap, rfl, hown⟩, k2⟩
  have HG2 : Hid (G8 w w2 (.slice (some ⟨g, 0, none⟩) P0.length cap) P0) := Lib.hid ⟨own_base (base' := w.heap.size) (by simp; omega) hown, HBA.out.trans (k2.mono HBA.out.size)⟩
  have HX2 := Lib.hid (HXA.out.below k2)
  clear hown k2 HN HXA HBA y0 y1 y2 y3 y4 y5 y6 y7 ylt hw1
  obtain ⟨y0, y1, y2, y3, y4, y5, y6, y7, ylt⟩ := HX2.out
  go_wp2_with fail
  refine (HLST.out _ HG2.out.hb).mono ?_; rintro e w3 ⟨⟨Al, cq, rfl, hyl, hnl, hql, hqc⟩, k3⟩
  have HG3 := Lib.hid (HG2.out.below k3)
  have hll := lsV_len (L.map Mr.r)
  rw [HLC.out.1]
  obtain ⟨Q, hQ⟩ : ∃ Q, lsV (L.map Mr.r) = Q := ⟨_, rfl⟩
  have HQE := Lib.hid hQ
  have HQ : Hid (0 < Q.length ∧ Q.length ≤ 80000) := Lib.hid (by rw [← hQ]; exact ⟨HLC.out.2, hll⟩)
  rw [hQ] at hyl ⊢
  obtain ⟨Bq, Oq, rfl, _⟩ := hyl HQ.out.1
  have hrow3 := HG3.out.row
  have hsrc3 := hyl.cells
  have z3 := HG3.out.hb.size
  clear hQ hll hyl hnl hql hqc k3 HLST HLC HG2 HX2 y0 y1 y2 y3 y4 y5 y6 y7 ylt
  have hq0 := HQ.out.1
  have hqm := HQ.out.2
  have hp0m := HPM.out
  go_wp2_with (at_builtin; refine wpList_append_lies _ rfl (.tmp 28) (.tmp 29) _ rfl w.heap.size 5 i0 _ 1 1 Tryd.underlying28 hi0 hz0 hz1 hz2 rfl (by decide) (.slice (some ⟨g, 0, none⟩) P0.length cap) P0.length _ rfl hrow3 ⟨Bq, Oq, none⟩ Q.length cq (bC Q) rfl (by rw [bC_len]; omega) hsrc3 (bC_one _) hq0 (by unfold maxLen; omega) (by first | omega | (simp; omega)) (by first | omega | (simp; omega)) _ rfl ?_; intro gz capz w4 hown4 hg4 hat4 hlt4)
  have HG4 : Hid (G8 w w4 (.slice (some ⟨gz, 0, none⟩) (P0.length + Q.length) capz) (P0 ++ Q)) := Lib.hid (HG3.out.app (Below.refl _ _) rfl hown4 hg4)
  clear hown4 hg4 hat4 hlt4 hrow3 hsrc3 HG3
  have HEW : Hid (encW (wdOf 1 o s m1 c1 m2 c2 L) = P0 ++ Q) := Lib.hid (by rw [encW_nums, if_pos rfl, HP0.out, HQE.out])
  have HLN : Hid ((P0 ++ Q).length = P0.length + Q.length) := Lib.hid (by first | rfl | exact List.length_append)
  have HF : Hid (Calls Tryd.prog 56 #[.slice (some ⟨gz, 0, none⟩) (P0.length + Q.length) capz] w4 fun e w' => (∃ g2 cap2, e = .returned (.tuple #[.slice (some ⟨g2, 0, none⟩) (12 + (P0.length + Q.length)) cap2, .int .i64 0]) ∧ Row8 w4.heap.size w' g2 cap2 (12 + (P0.length + Q.length)) (frE (P0 ++ Q))) ∧ Below w4.heap.size w4 w') := Lib.hid (by
    have hgr := HG4.out.row
    have hby := HBY.out
    have hbd := HBD.out
    rw [HEW.out] at hby hbd
    obtain ⟨A5, c5, e5, hy5, _⟩ := Own8.bytes hgr
    obtain ⟨rfl, rfl⟩ : some (⟨gz, 0, none⟩ : Addr) = A5 ∧ capz = c5 := by injection e5 with q1 q2 q3; exact ⟨q1, q3⟩
    exact ref_frame_n capz _ _ (P0 ++ Q) w4 HLN.out hy5 hby hbd.1 (by omega))
  have HBZ := Lib.hid HG4.out.hb
  clear HG4
  go_wp2_with fail
  refine HF.out.mono ?_; rintro e w6 ⟨⟨g6, cap6, rfl, hr6⟩, k6⟩
  have HB6 := Lib.hid (HBZ.out.trans (k6.mono HBZ.out.size))
  have HR6 := Lib.hid (hr6.base (b2 := w.heap.size) HBZ.out.size)
  clear hr6 k6 HF
  go_wp2
  go_ret2
  exact ⟨enc_res_of HEW.out (by first | exact HLN.out | rfl) ⟨g6, cap6, rfl, HR6.out⟩, HB6.out⟩
theorem rwd_enc (k o s m1 c1 m2 c2 : Int) (A : Option Addr) (c : Nat) (L : List Mr) (w : World) (hrow : RowAt w (.slice A L.length c) L) (hat : ∀ m ∈ L, m.At (fun _ => True) w) (hkb : ∀ m ∈ L, isBy m.r.key ∧ isBy m.r.val) (hl : L.length ≤ 100000) (h : okW (wdOf k o s m1 c1 m2 c2 L) = true) :
    Calls Tryd.prog 14 #[wdV k o s m1 c1 m2 c2 (.slice A L.length c)] w fun e w' => EncRes (wdOf k o s m1 c1 m2 c2 L) w w' e ∧ Below w.heap.size w w' := by
  rcases (okW_kind h).2 with ⟨q, _⟩ | ⟨q, _⟩ | ⟨q, _⟩
  · have q' : k = 1 := q
    subst q'
    exact rwd_enc_1 o s m1 c1 m2 c2 A c L w hrow hat hkb hl h
  · have q' : k = 2 := q
    subst q'
    exact rwd_enc_2 o s m1 c1 m2 c2 A c L w hrow hat hkb hl h
  · have q' : k = 3 := q
    subst q'
    exact rwd_enc_3 o s m1 c1 m2 c2 A c L w hrow hat hkb hl h
end Go.Proofs.YtdffldlcbihjmaaDoor

/- wire.Decode of a frame: what is told, of whatever kind. -/
namespace Go.Proofs.YtdffldlcbihjmaaDoor
open Go.RowKit Go.Sort

/-- A word is told, its records in a row of the call's own. -/
def WdTold (p : List Int) (w w' : World) (e : Ending) : Prop := ∃ (k o s m1 c1 m2 c2 : Int) (L : List Mr) (A : Option Addr) (c : Nat), decW p = some (wdOf k o s m1 c1 m2 c2 L) ∧ e = .returned (.tuple #[wdV k o s m1 c1 m2 c2 (.slice A L.length c), .int .i64 0]) ∧
  w'.ownsRow w.heap.size 89 9 (.slice A L.length c) L.length (rowM L) ∧ L.length ≤ 64 ∧ (∀ m ∈ L, m.At (fun i => w.heap.size ≤ i) w') ∧ (∀ m ∈ L, isBy m.r.key ∧ isBy m.r.val)
theorem told_none {p : List Int} {k o s m1 c1 m2 c2 : Int} {w w' : World} {e : Ending} (hd : decW p = some ⟨k, o, s, m1, c1, m2, c2, []⟩) (he : e = .returned (.tuple #[wdV k o s m1 c1 m2 c2 (.slice none 0 0), .int .i64 0])) : WdTold p w w' e :=
  ⟨k, o, s, m1, c1, m2, c2, [], none, 0, hd, he, World.ownsRow_nil _ _ _ _, by simp, (fun _ h => by cases h), (fun _ h => by cases h)⟩
theorem wd_dec_all (A : Option Addr) (l : List Int) (c : Nat) (w : World) (ht : Nib w) (hby : ByL w A l) (hb : isBy l) (hl : l.length ≤ 1000000) (hc : l.length ≤ c) (hcm : c ≤ maxLen) (hf : frO l = 0) (hp : (frP l).length ≤ 100000) :
    Calls Tryd.prog 18 #[.slice A l.length c] w fun e w' => ((decW (frP l) = none ∧ NoW 3 e) ∨ WdTold (frP l) w w' e) ∧ Below w.heap.size w w' := by
  by_cases h1 : (((numsR 3 (some (frP l))).1.getD 0 0 : Nat) : Int) = 1
  · refine (wd_dec_recs A l c w ht hby hb hl hc hcm hf hp h1).mono ?_
    rintro e w' ⟨h | ⟨k, o, s, L, A', c', q1, q2, q3, q4, q5, q6⟩, k'⟩
    · exact ⟨.inl h, k'⟩
    · exact ⟨.inr ⟨k, o, s, 0, 0, 0, 0, L, A', c', q1, q2, q3, q4, q5, q6⟩, k'⟩
  by_cases h3 : (((numsR 3 (some (frP l))).1.getD 0 0 : Nat) : Int) = 3
  · refine (wd_dec_beat A l c w ht hby hb hl hc hcm hf hp h3).mono ?_
    rintro e w' ⟨h | ⟨x, q1, q2⟩, k'⟩
    · exact ⟨.inl h, k'⟩
    · have q := decW_beat h3
      rw [q1] at q
      unfold chkW at q
      split at q
      · injection q with q
        subst q
        exact ⟨.inr (told_none q1 q2), k'⟩
      · cases q
  · refine (wd_dec_plain A l c w ht hby hb hl hc hcm hf hp h1 h3).mono ?_
    rintro e w' ⟨h | ⟨q1, q2⟩, k'⟩
    · exact ⟨.inl h, k'⟩
    · exact ⟨.inr (told_none q1 q2), k'⟩
end Go.Proofs.YtdffldlcbihjmaaDoor

/- An argument that is a record. -/
/- An argument that is a row of records (head of ArgRecs). -/
/- Stage 17: what the cards share. -/
/- An argument that is a word. -/
namespace Go.Proofs.YtdffldlcbihjmaaDoor
open Go.ChangeShapes Go.WideShapes Go.ChangeAt Go.RowKit Go.Joins Go.Deep

theorem weights_field {H : Type} {P : Program} {t : TypeId} {xs : List (DataW H)} {fs : Array Field} (hu : P.underlying t = some (.struct fs)) {i : Nat} {f : Field} (hf : fs[i]? = some f) {d : DataW H} (hd : xs[i]? = some d) : ∀ n ∈ d.weights P f.type, n ∈ (DataW.agg xs).weights P t := by
  intro n hn
  simp only [DataW.weights, hu]
  exact DataW.weights_mem_each (j := i) (t := f.type) (by simp; exact ⟨f, by simpa using hf, rfl⟩) hd n hn
theorem u8_cells' : Tryd.prog.cellsOf 5 = 1 := by kernel_rfl
theorem wf_u8' {x : Int} (h : (Lit.int .u8 x).wf = true) : 0 ≤ x ∧ x ≤ 255 := by
  simp [Lit.wf, IntKind.min, IntKind.max, IntKind.signed, IntKind.bits] at h
  omega
theorem cell_lt' {w : World} {B o : Nat} {v : Value} (h : w.cell? ⟨B, o, none⟩ = some v) : B < w.heap.size := by
  rcases Nat.lt_or_ge B w.heap.size with q | q
  · exact q
  · simp [World.cell?, Array.getElem?_eq_none q] at h
/-- A slice of bytes, as it is trod. -/
theorem open_bytes {H : Type} {enc : TypeId × Value → H} {w : World} {base : Nat} {sp : Nat → Bool} {fuel : Nat} {cs : List Value} {x : DataW H × List MemPlace} (hf : DataW.trod enc Tryd.prog w base sp true fuel 28 cs = some x) :
    ∃ (A : Option Addr) (l : List Int) (c : Nat), cs = [.slice A l.length c] ∧ l.length ≤ c ∧ c ≤ maxLen ∧ ByL w A l ∧ isBy l ∧ (A = none → l.length = 0) ∧ (∀ M, (∀ n ∈ x.1.weights Tryd.prog 28, n ≤ M) → l.length ≤ M) := by
  rcases open_ints Tryd.underlying28 Tryd.underlying5 u8_cells' hf with ⟨hcs, hx⟩ | ⟨a, len, cap, zs, hcs, _, hl, hm, hz, hx, hcell, hwz⟩
  · exact ⟨none, [], 0, hcs, by simp, by unfold maxLen; omega, ByL.nil _ _, isBy_nil, fun _ => rfl, fun M _ => by simp⟩
  · have hlz : len ≤ zs.length := by rw [hz]; split <;> omega
    have hle : (zs.take len).length = len := by rw [List.length_take]; omega
    refine ⟨some a, zs.take len, cap, by rw [hle]; exact hcs, by omega, by omega, fun h0 => ?_, fun b hb => ?_, (fun e => by cases e), fun M hM => ?_⟩
    · rw [hle] at h0
      obtain ⟨B, O, spot⟩ := a
      have hspot : spot = none := by simpa [Addr.add] using World.cell?_spot (hcell 0 (by omega))
      subst hspot
      have hc : ∀ j, j < len → w.cell? ⟨B, O + j, none⟩ = some (.int .u8 (zs.getD j 0)) := fun j hj => by rw [← add_plain]; exact hcell j (by omega)
      refine ⟨B, O, rfl, cell_lt' (hc 0 h0), fun j u hu => ?_⟩
      obtain ⟨q, rfl⟩ := bC_some hu
      rw [hle] at q
      rw [hc j q, List.getD_eq_getElem?_getD, List.getElem?_eq_getElem (by omega), List.getElem_take]
      rfl
    · exact wf_u8' (hwz b (List.mem_of_mem_take hb))
    · rw [hle]
      have := hM ((len + (zs.length - len)) * Tryd.prog.bytesOf 5) ?_
      · have hb1 : Tryd.prog.bytesOf 5 = 1 := by kernel_rfl
        rw [hb1] at this
        omega
      · rw [hx]
        simp [DataW.weights, Tryd.underlying28, lits]
        rw [show min len zs.length = len from by omega]
        exact Or.inl rfl
theorem rec_cells : Tryd.prog.cellsOf 89 = 9 := by kernel_rfl
theorem ver_cells : Tryd.prog.cellsOf 87 = 6 := by kernel_rfl
theorem stamp_cells : Tryd.prog.cellsOf 23 = 2 := by kernel_rfl
theorem one_cell {cs : List Value} {v : Value} (h : cs = [v]) : cs = [v] := h
set_option maxRecDepth 100000 in
/-- What a version's six cells read as. -/
theorem open_ver {H : Type} {enc : TypeId × Value → H} {w : World} {base : Nat} {sp : Nat → Bool} {fuel : Nat} {c0 c1 c2 c3 c4 c5 : Value} {x : DataW H × List MemPlace} (hf : DataW.trod enc Tryd.prog w base sp true fuel 87 [c0, c1, c2, c3, c4, c5] = some x) :
    ∃ (ml ct vo : Int) (A : Option Addr) (l : List Int) (c : Nat) (gone : Bool) (tt : Int), [c0, c1, c2, c3, c4, c5] = [.int .i64 ml, .int .i64 ct, .int .i64 vo, .slice A l.length c, .bool gone, .int .i64 tt] ∧ l.length ≤ c ∧ c ≤ maxLen ∧ ByL w A l ∧ isBy l ∧ (A = none → l.length = 0) ∧
      ((Lit.int .i64 ml).wf = true ∧ (Lit.int .i64 ct).wf = true ∧ (Lit.int .i64 vo).wf = true ∧ (Lit.int .i64 tt).wf = true) ∧ (∀ M, (∀ n ∈ x.1.weights Tryd.prog 87, n ≤ M) → l.length ≤ M) := by
  obtain ⟨xs, n, _, hx, _, hlen, hg⟩ := DataW.trod_struct Tryd.underlying87 hf
  have hlen' : xs.length = 5 := hlen
  have g0 := hg 0 _ rfl
  have g1 := hg 1 _ rfl
  have g2 := hg 2 _ rfl
  have g3 := hg 3 _ rfl
  have g4 := hg 4 _ rfl
  rw [List.getElem?_eq_getElem (by omega)] at g0 g1 g2 g3 g4
  have k0 : DataW.trod enc Tryd.prog w base sp true n 23 [c0, c1] = some xs[0] := g0
  have k1 : DataW.trod enc Tryd.prog w base sp true n 3 [c2] = some xs[1] := g1
  have k2 : DataW.trod enc Tryd.prog w base sp true n 28 [c3] = some xs[2] := g2
  have k3 : DataW.trod enc Tryd.prog w base sp true n 4 [c4] = some xs[3] := g3
  have k4 : DataW.trod enc Tryd.prog w base sp true n 3 [c5] = some xs[4] := g4
  obtain ⟨ys, m, _, hy, _, hlen2, hg2⟩ := DataW.trod_struct Tryd.underlying23 k0
  have hlen2' : ys.length = 2 := hlen2
  have j0 := hg2 0 _ rfl
  have j1 := hg2 1 _ rfl
  rw [List.getElem?_eq_getElem (by omega)] at j0 j1
  have i0 : DataW.trod enc Tryd.prog w base sp true m 3 [c0] = some ys[0] := j0
  have i1 : DataW.trod enc Tryd.prog w base sp true m 3 [c1] = some ys[1] := j1
  obtain ⟨ml, e0, _, w0⟩ := DataW.trod_int Tryd.underlying3 i0
  obtain ⟨ct, e1, _, w1⟩ := DataW.trod_int Tryd.underlying3 i1
  obtain ⟨vo, e2, _, w2⟩ := DataW.trod_int Tryd.underlying3 k1
  obtain ⟨A, l, c, e3, hl, hm, hby, hb, hn, hw⟩ := open_bytes k2
  obtain ⟨gone, e4, _⟩ := DataW.trod_bool Tryd.underlying4 k3
  obtain ⟨tt, e5, _, w5⟩ := DataW.trod_int Tryd.underlying3 k4
  simp only [List.cons.injEq, and_true] at e0 e1 e2 e3 e4 e5
  subst e0 e1 e2 e3 e4 e5
  refine ⟨ml, ct, vo, A, l, c, gone, tt, rfl, hl, hm, hby, hb, hn, ⟨w0, w1, w2, w5⟩, fun M hM => hw M (fun q hq => hM q ?_)⟩
  rw [hx]
  exact weights_field (i := 2) Tryd.underlying87 rfl (by simp only [List.getElem?_map]; rw [List.getElem?_eq_getElem (by omega)]; rfl) q hq
set_option maxRecDepth 100000 in
theorem open_record {H : Type} {enc : TypeId × Value → H} {w : World} {base b0 : Nat} {r : Reach} {sp : Nat → Bool} {v : Value} {d : DataW H} {p : List MemPlace} (hv : Value.okWide Tryd.prog w r b0 89 v) (h : DataW.Trod enc Tryd.prog w base sp true 89 v d p) :
    ∃ (o s : Int) (key : ByteArray) (ml ct vo : Int) (A : Option Addr) (l : List Int) (c : Nat) (gone : Bool) (tt : Int), v = recV o s key ml ct vo A l.length c gone tt ∧ l.length ≤ c ∧ c ≤ maxLen ∧ ByL w A l ∧ isBy l ∧ (A = none → l.length = 0) ∧
      (∀ M, (∀ n ∈ d.weights Tryd.prog 89, n ≤ M) → l.length ≤ M ∧ key.size ≤ M) := by
  obtain ⟨cs, rfl, hsz⟩ := okWide_struct Tryd.underlying89 hv
  rw [rec_cells] at hsz
  obtain ⟨ls⟩ := cs
  match ls, hsz with
  | [c0, c1, c2, c3, c4, c5, c6, c7, c8], _ =>
    obtain ⟨fuel, hf⟩ := h
    have e : (Value.agg #[c0, c1, c2, c3, c4, c5, c6, c7, c8]).cells.toList = [c0, c1, c2, c3, c4, c5, c6, c7, c8] := by simp [Value.cells]
    rw [e] at hf
    obtain ⟨xs, n, _, hx, _, hlen, hg⟩ := DataW.trod_struct Tryd.underlying89 hf
    have hlen' : xs.length = 4 := hlen
    have g0 := hg 0 _ rfl
    have g1 := hg 1 _ rfl
    have g2 := hg 2 _ rfl
    have g3 := hg 3 _ rfl
    rw [List.getElem?_eq_getElem (by omega)] at g0 g1 g2 g3
    have k0 : DataW.trod enc Tryd.prog w base sp true n 3 [c0] = some xs[0] := g0
    have k1 : DataW.trod enc Tryd.prog w base sp true n 3 [c1] = some xs[1] := g1
    have k2 : DataW.trod enc Tryd.prog w base sp true n 9 [c2] = some xs[2] := g2
    have k3 : DataW.trod enc Tryd.prog w base sp true n 87 [c3, c4, c5, c6, c7, c8] = some xs[3] := g3
    obtain ⟨o, e0, _, w0⟩ := DataW.trod_int Tryd.underlying3 k0
    obtain ⟨s, e1, _, w1⟩ := DataW.trod_int Tryd.underlying3 k1
    obtain ⟨key, e2, hk, _⟩ := DataW.trod_string Tryd.underlying9 k2
    obtain ⟨ml, ct, vo, A, l, c, gone, tt, e3, hl, hm, hby, hb, hn, _, hw⟩ := open_ver k3
    simp only [List.cons.injEq, and_true] at e0 e1 e2 e3
    obtain ⟨rfl, rfl, rfl, rfl, rfl, rfl⟩ := e3
    subst e0 e1 e2
    injection hx with hx1 hx2
    refine ⟨o, s, key, ml, ct, vo, A, l, c, gone, tt, rfl, hl, hm, hby, hb, hn, fun M hM => ⟨hw M (fun q hq => hM q ?_), hM key.size ?_⟩⟩
    · rw [hx1]
      exact weights_field (i := 3) Tryd.underlying89 rfl (by simp only [List.getElem?_map]; rw [List.getElem?_eq_getElem (by omega)]; rfl) q hq
    · rw [hx1]
      refine weights_field (i := 2) Tryd.underlying89 rfl (by simp only [List.getElem?_map]; rw [List.getElem?_eq_getElem (by omega)]; rfl) _ ?_
      rw [hk]
      simp [DataW.weights]
theorem sized_each {H : Type} {P : Program} {ts : List TypeId} {ds : List (DataW H)} (h : (DataW.weightsEach P ts ds).all (· ≤ reachBytes) = true) {j : Nat} {t : TypeId} {d : DataW H} (ht : ts[j]? = some t) (hd : ds[j]? = some d) : ∀ n ∈ d.weights P t, n ≤ reachBytes := fun n hn => by
  simpa using List.all_eq_true.1 h n (DataW.weights_mem_each ht hd n hn)
end Go.Proofs.YtdffldlcbihjmaaDoor
namespace Go.Proofs.YtdffldlcbihjmaaDoor
set_option maxRecDepth 100000
open Go.ChangeShapes Go.WideShapes Go.ChangeAt Go.RowKit Go.Joins Go.Deep

theorem weightsAll_mem {H : Type} {P : Program} {e : TypeId} : ∀ {ds : List (DataW H)} {d : DataW H}, d ∈ ds → ∀ n ∈ d.weights P e, n ∈ DataW.weightsAll P e ds
  | [], _, h, _, _ => by cases h
  | d' :: r, d, h, n, hn => by
    rw [DataW.weightsAll]
    rcases List.mem_cons.1 h with rfl | h
    · exact List.mem_append_left _ hn
    · exact List.mem_append_right _ (weightsAll_mem h n hn)
/-- What is known of a record that came in. -/
structure MrIn (w : World) (m : Mr) : Prop where
  at_ : m.At (fun _ => True) w
  key : isBy m.r.key
  val : isBy m.r.val
theorem open_rec_trod {H : Type} {enc : TypeId × Value → H} {w : World} {base : Nat} {sp : Nat → Bool} {fuel : Nat} {cs : List Value} {x : DataW H × List MemPlace} (hl : cs.length = 9) (hf : DataW.trod enc Tryd.prog w base sp true fuel 89 cs = some x) :
    ∃ m : Mr, cs = m.cs ∧ MrIn w m ∧ (∀ M, (∀ n ∈ x.1.weights Tryd.prog 89, n ≤ M) → m.r.val.length ≤ M ∧ m.r.key.length ≤ M) := by
  match cs, hl with
  | [c0, c1, c2, c3, c4, c5, c6, c7, c8], _ =>
    obtain ⟨xs, n, _, hx, _, hlen, hg⟩ := DataW.trod_struct Tryd.underlying89 hf
    have hlen' : xs.length = 4 := hlen
    have g0 := hg 0 _ rfl
    have g1 := hg 1 _ rfl
    have g2 := hg 2 _ rfl
    have g3 := hg 3 _ rfl
    rw [List.getElem?_eq_getElem (by omega)] at g0 g1 g2 g3
    have k0 : DataW.trod enc Tryd.prog w base sp true n 3 [c0] = some xs[0] := g0
    have k1 : DataW.trod enc Tryd.prog w base sp true n 3 [c1] = some xs[1] := g1
    have k2 : DataW.trod enc Tryd.prog w base sp true n 9 [c2] = some xs[2] := g2
    have k3 : DataW.trod enc Tryd.prog w base sp true n 87 [c3, c4, c5, c6, c7, c8] = some xs[3] := g3
    obtain ⟨o, e0, _, w0⟩ := DataW.trod_int Tryd.underlying3 k0
    obtain ⟨s, e1, _, w1⟩ := DataW.trod_int Tryd.underlying3 k1
    obtain ⟨key, e2, hk, _⟩ := DataW.trod_string Tryd.underlying9 k2
    obtain ⟨ml, ct, vo, A, l, c, gone, tt, e3, hl, hm, hby, hb, hn, _, hw⟩ := open_ver k3
    simp only [List.cons.injEq, and_true] at e0 e1 e2 e3
    obtain ⟨rfl, rfl, rfl, rfl, rfl, rfl⟩ := e3
    subst e0 e1 e2
    refine ⟨⟨⟨o, s, kL key, ml, ct, vo, l, gone, tt⟩, A, c⟩, by simp [Mr.cs, str_kL], ⟨⟨hby, hn, fun _ _ _ => trivial⟩, kL_by key, hb⟩, fun M hM => ⟨hw M (fun q hq => hM q ?_), ?_⟩⟩
    · rw [hx]
      exact weights_field (i := 3) Tryd.underlying89 rfl (by simp only [List.getElem?_map]; rw [List.getElem?_eq_getElem (by omega)]; rfl) q hq
    · show (kL key).length ≤ M
      rw [kL_len]
      refine hM key.size ?_
      rw [hx]
      refine weights_field (i := 2) Tryd.underlying89 rfl (by simp only [List.getElem?_map]; rw [List.getElem?_eq_getElem (by omega)]; rfl) _ ?_
      rw [hk]
      simp [DataW.weights]
theorem open_records {H : Type} {enc : TypeId × Value → H} {w : World} {r : Reach} {b0 base : Nat} {sp : Nat → Bool} {v : Value} {d : DataW H} {p : List MemPlace} (hv : Value.okWide Tryd.prog w r b0 24 v) (h : DataW.Trod enc Tryd.prog w base sp true 24 v d p) :
    ∃ (L : List Mr) (A : Option Addr) (c : Nat), v = .slice A L.length c ∧ L.length ≤ maxLen ∧ RowAt w v L ∧ (∀ m ∈ L, MrIn w m) ∧ (A = none → L.length = 0 ∧ c = 0) ∧ (∀ M, (∀ n ∈ d.weights Tryd.prog 24, n ≤ M) → ∀ m ∈ L, m.r.val.length ≤ M ∧ m.r.key.length ≤ M) := by
  obtain ⟨a0, len, cap, rfl⟩ := okWide_slice Tryd.underlying24 hv
  obtain ⟨fuel, hf⟩ := h
  rcases Go.Deep.open_slice Tryd.underlying24 hf with ⟨hcs, _⟩ | ⟨a, len', cap', mm, k, D, Pl, hcs, _, hl, hmx, hmm, hx, hi⟩
  · simp [Value.cells] at hcs
    obtain ⟨rfl, rfl, rfl⟩ := hcs
    exact ⟨[], none, 0, rfl, by simp, ⟨none, 0, rfl, fun h => absurd h (by simp)⟩, fun m hm => (by cases hm), fun _ => ⟨rfl, rfl⟩, fun M _ m hm => (by cases hm)⟩
  · simp [Value.cells] at hcs
    obtain ⟨rfl, rfl, rfl⟩ := hcs
    rw [rec_cells] at hi
    have hlm : len ≤ mm := by rw [hmm]; split <;> omega
    have hex : ∀ i, ∃ m : Mr, i < len → (∀ j u, m.cs[j]? = some u → w.cell? ((a.add (i * 9)).add j) = some u) ∧ MrIn w m ∧ (∀ M, (∀ n ∈ (D i).weights Tryd.prog 89, n ≤ M) → m.r.val.length ≤ M ∧ m.r.key.length ≤ M) := fun i => by
      by_cases hil : i < len
      · obtain ⟨cs', hc, ht⟩ := hi i (by omega)
        obtain ⟨_, hcl, hat⟩ := World.cells?_some hc
        obtain ⟨m, hm, hin, hw⟩ := open_rec_trod hcl ht
        refine ⟨m, fun _ => ⟨fun j u hu => ?_, hin, hw⟩⟩
        have hj : j < 9 := by
          have := (List.getElem?_eq_some_iff.1 hu).1
          simpa [Mr.cs] using this
        rw [hat j hj, hm]
        exact hu
      · exact ⟨⟨⟨0, 0, [], 0, 0, 0, [], false, 0⟩, none, 0⟩, fun h => absurd h hil⟩
    have hF : ∃ F : Nat → Mr, ∀ i, i < len → (∀ j u, (F i).cs[j]? = some u → w.cell? ((a.add (i * 9)).add j) = some u) ∧ MrIn w (F i) ∧ (∀ M, (∀ n ∈ (D i).weights Tryd.prog 89, n ≤ M) → (F i).r.val.length ≤ M ∧ (F i).r.key.length ≤ M) := ⟨fun i => Classical.choose (hex i), fun i => Classical.choose_spec (hex i)⟩
    obtain ⟨F, hF⟩ := hF
    have hLl : ((List.range len).map F).length = len := by simp
    have hLa : ∀ i, i < len → ((List.range len).map F)[i]? = some (F i) := fun i hi => by simp [hi]
    refine ⟨(List.range len).map F, some a, cap, by rw [hLl], by rw [hLl]; omega, ⟨some a, cap, by rw [hLl], fun h0 => ?_⟩, fun m hm => ?_, (fun e => by cases e), fun M hM m hm => ?_⟩
    · rw [hLl] at h0
      obtain ⟨B, O, spot⟩ := a
      have h00 := (hF 0 h0).1 0 _ rfl
      have hspot : spot = none := by simpa [Addr.add] using World.cell?_spot h00
      subst hspot
      rw [add_plain, add_plain] at h00
      refine ⟨B, O, rfl, cell_lt' h00, fun j u hu => ?_⟩
      have hj : j < len * 9 := by
        have := (List.getElem?_eq_some_iff.1 hu).1
        rwa [rowM_len, hLl] at this
      have hk : j / 9 < len := by omega
      have he : j / 9 * 9 + j % 9 = j := by omega
      have h2 := rowM_at (hLa (j / 9) hk) (j % 9) (by omega)
      rw [he] at h2
      rw [h2] at hu
      have h3 := (hF (j / 9) hk).1 (j % 9) u hu
      rw [add_plain, add_plain, Nat.add_assoc, he] at h3
      exact h3
    · obtain ⟨i, hi', rfl⟩ := List.mem_map.1 hm
      exact (hF i (List.mem_range.1 hi')).2.1
    · obtain ⟨i, hi', rfl⟩ := List.mem_map.1 hm
      have hil := List.mem_range.1 hi'
      refine (hF i hil).2.2 M (fun n hn => hM n ?_)
      injection hx with hx1 _
      rw [hx1]
      simp only [DataW.weights, Tryd.underlying24]
      exact List.mem_cons_of_mem _ (List.mem_append_left _ (weightsAll_mem (List.mem_map.2 ⟨i, List.mem_range.2 hil, rfl⟩) n hn))
end Go.Proofs.YtdffldlcbihjmaaDoor
namespace Go.Proofs.YtdffldlcbihjmaaDoor
open Go.ChangeShapes Go.WideShapes Go.ChangeAt Go.RowKit Go.Joins

def litCells : Nat → DataW Unit → List Value
  | 0, _ => []
  | _ + 1, .lit (.int k n) => [.int k n]
  | f + 1, .agg l => l.flatMap (litCells f)
  | _ + 1, _ => []
/-- A world in which a listed table holds what it is laid with. -/
def layAt (w : World) (g : Nat) (d : DataW Unit) : World := { w with heap := w.heap.modify g fun
  | .cells _ t fr => .cells (litCells 4 d).toArray t fr
  | o => o }
theorem plain_of {lk : Bool} {f0 : Nat} {fn0 : Func} {nm : String} (h1 : Tryd.prog.funcNamed nm = some f0) (h2 : Tryd.prog.funcs[f0]? = some fn0) (h3 : lk = Tryd.prog.looks []) (h4 : (fn0.params.all fun t => !Tryd.prog.wantsStandIn t) = true) (f : FuncId) (fn : Func) (hf : Tryd.pinned.checked.prog.funcNamed nm = some f) (hfn : Tryd.pinned.checked.prog.funcs[f]? = some fn) :
    lk = Tryd.pinned.checked.prog.looks [] ∧ ∀ (j : Nat) t, fn.params[j]? = some t → Tryd.pinned.checked.prog.wantsStandIn t = false := by
  obtain rfl : f = f0 := Option.some.inj ((show Tryd.prog.funcNamed nm = some f from hf).symm.trans h1)
  obtain rfl : fn = fn0 := Option.some.inj ((show Tryd.prog.funcs[f]? = some fn from hfn).symm.trans h2)
  refine ⟨h3, fun j t ht => ?_⟩
  have hm := Array.mem_of_getElem? ht
  have := Array.all_eq_true'.1 h4 t hm
  exact (show Tryd.prog.wantsStandIn t = false by simpa using this)
theorem nib_of_laid {W : World} (h : laidMet Tryd.prog [("meridian/octet.nibbles", Rows.laid_meridian_octet_nibbles)] W) : Nib W :=
  Lib.tabIs_of_head (g := 0) (t := 155) (e := 136) (n := 16) (rest := []) (by kernel_rfl) (by kernel_rfl) Tryd.underlying155 Tryd.underlying136 (by kernel_rfl) (by kernel_rfl) h
noncomputable def layW1 (os : Os) : World := layAt (World.holding Tryd.prog os ⟨#[], #[], []⟩) 0 Rows.laid_meridian_octet_nibbles
end Go.Proofs.YtdffldlcbihjmaaDoor
namespace Go.Proofs.YtdffldlcbihjmaaDoor
set_option maxRecDepth 100000
open Go.ChangeShapes Go.WideShapes Go.ChangeAt Go.RowKit Go.Joins Go.Deep

theorem open_recs_trod {H : Type} {enc : TypeId × Value → H} {w : World} {base : Nat} {sp : Nat → Bool} {fuel : Nat} {cs : List Value} {x : DataW H × List MemPlace} (hf : DataW.trod enc Tryd.prog w base sp true fuel 24 cs = some x) :
    ∃ (L : List Mr) (A : Option Addr) (c : Nat), cs = [.slice A L.length c] ∧ L.length ≤ maxLen ∧ RowAt w (.slice A L.length c) L ∧ (∀ m ∈ L, MrIn w m) ∧ (A = none → L.length = 0 ∧ c = 0) ∧ (∀ M, (∀ n ∈ x.1.weights Tryd.prog 24, n ≤ M) → ∀ m ∈ L, m.r.val.length ≤ M ∧ m.r.key.length ≤ M) := by
  rcases Go.Deep.open_slice Tryd.underlying24 hf with ⟨hcs, _⟩ | ⟨a, len, cap, mm, k, D, Pl, hcs, _, hl, hmx, hmm, hx, hi⟩
  · exact ⟨[], none, 0, hcs, by simp, ⟨none, 0, rfl, fun h => absurd h (by simp)⟩, fun m hm => (by cases hm), fun _ => ⟨rfl, rfl⟩, fun M _ m hm => (by cases hm)⟩
  · rw [rec_cells] at hi
    have hlm : len ≤ mm := by rw [hmm]; split <;> omega
    have hex : ∀ i, ∃ m : Mr, i < len → (∀ j u, m.cs[j]? = some u → w.cell? ((a.add (i * 9)).add j) = some u) ∧ MrIn w m ∧ (∀ M, (∀ n ∈ (D i).weights Tryd.prog 89, n ≤ M) → m.r.val.length ≤ M ∧ m.r.key.length ≤ M) := fun i => by
      by_cases hil : i < len
      · obtain ⟨cs', hc, ht⟩ := hi i (by omega)
        obtain ⟨_, hcl, hat⟩ := World.cells?_some hc
        obtain ⟨m, hm, hin, hw⟩ := open_rec_trod hcl ht
        refine ⟨m, fun _ => ⟨fun j u hu => ?_, hin, hw⟩⟩
        have hj : j < 9 := by
          have := (List.getElem?_eq_some_iff.1 hu).1
          simpa [Mr.cs] using this
        rw [hat j hj, hm]
        exact hu
      · exact ⟨⟨⟨0, 0, [], 0, 0, 0, [], false, 0⟩, none, 0⟩, fun h => absurd h hil⟩
    have hF : ∃ F : Nat → Mr, ∀ i, i < len → (∀ j u, (F i).cs[j]? = some u → w.cell? ((a.add (i * 9)).add j) = some u) ∧ MrIn w (F i) ∧ (∀ M, (∀ n ∈ (D i).weights Tryd.prog 89, n ≤ M) → (F i).r.val.length ≤ M ∧ (F i).r.key.length ≤ M) := ⟨fun i => Classical.choose (hex i), fun i => Classical.choose_spec (hex i)⟩
    obtain ⟨F, hF⟩ := hF
    have hLl : ((List.range len).map F).length = len := by simp
    have hLa : ∀ i, i < len → ((List.range len).map F)[i]? = some (F i) := fun i hi => by simp [hi]
    refine ⟨(List.range len).map F, some a, cap, by rw [hLl]; exact hcs, by rw [hLl]; omega, ⟨some a, cap, by rw [hLl], fun h0 => ?_⟩, fun m hm => ?_, (fun e => by cases e), fun M hM m hm => ?_⟩
    · rw [hLl] at h0
      obtain ⟨B, O, spot⟩ := a
      have h00 := (hF 0 h0).1 0 _ rfl
      have hspot : spot = none := by simpa [Addr.add] using World.cell?_spot h00
      subst hspot
      rw [add_plain, add_plain] at h00
      refine ⟨B, O, rfl, cell_lt' h00, fun j u hu => ?_⟩
      have hj : j < len * 9 := by
        have := (List.getElem?_eq_some_iff.1 hu).1
        rwa [rowM_len, hLl] at this
      have hk : j / 9 < len := by omega
      have he : j / 9 * 9 + j % 9 = j := by omega
      have h2 := rowM_at (hLa (j / 9) hk) (j % 9) (by omega)
      rw [he] at h2
      rw [h2] at hu
      have h3 := (hF (j / 9) hk).1 (j % 9) u hu
      rw [add_plain, add_plain, Nat.add_assoc, he] at h3
      exact h3
    · obtain ⟨i, hi', rfl⟩ := List.mem_map.1 hm
      exact (hF i (List.mem_range.1 hi')).2.1
    · obtain ⟨i, hi', rfl⟩ := List.mem_map.1 hm
      have hil := List.mem_range.1 hi'
      refine (hF i hil).2.2 M (fun n hn => hM n ?_)
      rw [hx]
      simp only [DataW.weights, Tryd.underlying24]
      exact List.mem_cons_of_mem _ (List.mem_append_left _ (weightsAll_mem (List.mem_map.2 ⟨i, List.mem_range.2 hil, rfl⟩) n hn))
theorem word_cells : Tryd.prog.cellsOf 26 = 8 := by kernel_rfl
theorem open_stamp_trod {H : Type} {enc : TypeId × Value → H} {w : World} {base : Nat} {sp : Nat → Bool} {fuel : Nat} {c0 c1 : Value} {x : DataW H × List MemPlace} (hf : DataW.trod enc Tryd.prog w base sp true fuel 23 [c0, c1] = some x) :
    ∃ m c : Int, c0 = .int .i64 m ∧ c1 = .int .i64 c := by
  obtain ⟨ys, m, _, hy, _, hlen2, hg2⟩ := DataW.trod_struct Tryd.underlying23 hf
  have hlen2' : ys.length = 2 := hlen2
  have j0 := hg2 0 _ rfl
  have j1 := hg2 1 _ rfl
  rw [List.getElem?_eq_getElem (by omega)] at j0 j1
  have i0 : DataW.trod enc Tryd.prog w base sp true m 3 [c0] = some ys[0] := j0
  have i1 : DataW.trod enc Tryd.prog w base sp true m 3 [c1] = some ys[1] := j1
  obtain ⟨ml, e0, _, w0⟩ := DataW.trod_int Tryd.underlying3 i0
  obtain ⟨ct, e1, _, w1⟩ := DataW.trod_int Tryd.underlying3 i1
  simp only [List.cons.injEq, and_true] at e0 e1
  exact ⟨ml, ct, e0, e1⟩
theorem open_word {H : Type} {enc : TypeId × Value → H} {w : World} {base b0 : Nat} {r : Reach} {sp : Nat → Bool} {v : Value} {d : DataW H} {p : List MemPlace} (hv : Value.okWide Tryd.prog w r b0 26 v) (h : DataW.Trod enc Tryd.prog w base sp true 26 v d p) :
    ∃ (k o s m1 c1 m2 c2 : Int) (L : List Mr) (A : Option Addr) (c : Nat), v = wdV k o s m1 c1 m2 c2 (.slice A L.length c) ∧ L.length ≤ maxLen ∧ RowAt w (.slice A L.length c) L ∧ (∀ m ∈ L, MrIn w m) ∧
      (∀ M, (∀ n ∈ d.weights Tryd.prog 26, n ≤ M) → ∀ m ∈ L, m.r.val.length ≤ M ∧ m.r.key.length ≤ M) := by
  obtain ⟨cs, rfl, hsz⟩ := okWide_struct Tryd.underlying26 hv
  rw [word_cells] at hsz
  obtain ⟨ls⟩ := cs
  match ls, hsz with
  | [c0, c1, c2, c3, c4, c5, c6, c7], _ =>
    obtain ⟨fuel, hf⟩ := h
    have e : (Value.agg #[c0, c1, c2, c3, c4, c5, c6, c7]).cells.toList = [c0, c1, c2, c3, c4, c5, c6, c7] := by simp [Value.cells]
    rw [e] at hf
    obtain ⟨xs, n, _, hx, _, hlen, hg⟩ := DataW.trod_struct Tryd.underlying26 hf
    have hlen' : xs.length = 6 := hlen
    have g0 := hg 0 _ rfl
    have g1 := hg 1 _ rfl
    have g2 := hg 2 _ rfl
    have g3 := hg 3 _ rfl
    have g4 := hg 4 _ rfl
    have g5 := hg 5 _ rfl
    rw [List.getElem?_eq_getElem (by omega)] at g0 g1 g2 g3 g4 g5
    have k0 : DataW.trod enc Tryd.prog w base sp true n 3 [c0] = some xs[0] := g0
    have k1 : DataW.trod enc Tryd.prog w base sp true n 3 [c1] = some xs[1] := g1
    have k2 : DataW.trod enc Tryd.prog w base sp true n 3 [c2] = some xs[2] := g2
    have k3 : DataW.trod enc Tryd.prog w base sp true n 23 [c3, c4] = some xs[3] := g3
    have k4 : DataW.trod enc Tryd.prog w base sp true n 23 [c5, c6] = some xs[4] := g4
    have k5 : DataW.trod enc Tryd.prog w base sp true n 24 [c7] = some xs[5] := g5
    obtain ⟨k, e0, _, _⟩ := DataW.trod_int Tryd.underlying3 k0
    obtain ⟨o, e1, _, _⟩ := DataW.trod_int Tryd.underlying3 k1
    obtain ⟨s, e2, _, _⟩ := DataW.trod_int Tryd.underlying3 k2
    obtain ⟨m1, n1, rfl, rfl⟩ := open_stamp_trod k3
    obtain ⟨m2, n2, rfl, rfl⟩ := open_stamp_trod k4
    obtain ⟨L, A, c, e7, hmx, hrow, hin, _, hz⟩ := open_recs_trod k5
    simp only [List.cons.injEq, and_true] at e0 e1 e2 e7
    subst e0 e1 e2 e7
    injection hx with hx1 hx2
    refine ⟨k, o, s, m1, n1, m2, n2, L, A, c, rfl, hmx, hrow, hin, fun M hM => hz M (fun q hq => hM q ?_)⟩
    rw [hx1]
    exact weights_field (i := 5) Tryd.underlying26 rfl (by simp only [List.getElem?_map]; rw [List.getElem?_eq_getElem (by omega)]; rfl) q hq
end Go.Proofs.YtdffldlcbihjmaaDoor

/- Stage 17: WireEncodes: any word as bytes, or refused, as the document has it; and back. (for every word) -/
namespace Go.Proofs.YtdffldlcbihjmaaDoor
open Go.RowKit Go.Sort

theorem lsame_n (A : Option Addr) (p : List Int) (n c : Nat) (A' : Option Addr) (p' : List Int) (n' c' : Nat) (w : World) (h1 : p.length = n) (h2 : p'.length = n') (hn : n ≤ 1000000) (hn' : n' ≤ 1000000) (h : ByL w A p) (h' : ByL w A' p') (he : p = p') :
    Calls Tryd.prog 15 #[.slice A n c, .slice A' n' c'] w fun e w' => e = .returned (.bool true) ∧ Below w.heap.size w w' := by
  subst h1 h2
  exact (lsame A p c A' p' c' w hn hn' h h').mono fun e w' ⟨q1, q, q2⟩ => ⟨by rw [q1]; simp [he], by rw [q2]; exact drewN_below w q⟩
theorem wd_dec_n (A : Option Addr) (l : List Int) (n c : Nat) (w : World) (h1 : l.length = n) (ht : Nib w) (hby : ByL w A l) (hb : isBy l) (hl : n ≤ 1000000) (hc : n ≤ c) (hcm : c ≤ maxLen) (hf : frO l = 0) (hp : (frP l).length ≤ 100000) :
    Calls Tryd.prog 18 #[.slice A n c] w fun e w' => ((decW (frP l) = none ∧ NoW 3 e) ∨ WdTold (frP l) w w' e) ∧ Below w.heap.size w w' := by
  subst h1
  exact wd_dec_all A l c w ht hby hb hl hc hcm hf hp
theorem words_yes (k o s m1 c1 m2 c2 k' o' s' m1' c1' m2' c2' : Int) (A A' : Option Addr) (c c' : Nat) (L L' : List Mr) (w : World) (h : RowAt w (.slice A L.length c) L) (h' : RowAt w (.slice A' L'.length c') L') (ha : ∀ m ∈ L, m.At (fun _ => True) w) (ha' : ∀ m ∈ L', m.At (fun _ => True) w) (hb : ∀ m ∈ L, isBy m.r.key ∧ isBy m.r.val) (hb' : ∀ m ∈ L', isBy m.r.key ∧ isBy m.r.val) (hl : L.length ≤ 100000)
    (he : wdOf k o s m1 c1 m2 c2 L = wdOf k' o' s' m1' c1' m2' c2' L') :
    Calls Tryd.prog 16 #[wdV k o s m1 c1 m2 c2 (.slice A L.length c), wdV k' o' s' m1' c1' m2' c2' (.slice A' L'.length c')] w fun e w' => e = .returned (.bool true) ∧ Below w.heap.size w w' :=
  (law_words k o s m1 c1 m2 c2 k' o' s' m1' c1' m2' c2' A A' c c' L L' w h h' ha ha' hb hb' hl).mono fun e w' ⟨⟨b, q, hq⟩, k⟩ => ⟨by rw [q, hq.2 he], k⟩
set_option maxRecDepth 100000 in
set_option maxHeartbeats 8000000 in
theorem enc_n_false (k o s m1 c1 m2 c2 : Int) (c : Nat) (w : World) (ht : Nib w) (hrow : RowAt w (.slice none 0 c) []) (hok : okW (wdOf k o s m1 c1 m2 c2 []) = false) :
    Calls Tryd.prog 3 #[wdV k o s m1 c1 m2 c2 (.slice none 0 c)] w fun e w' => e = .returned (.bool true) ∧ Below w.heap.size w w' := by
  obtain ⟨i0, hi0, hz0, hz1, hz2⟩ := info_parts rec_info
  have hs : ∀ m ∈ ([] : List Mr), m.r.val.length ≤ 281474976710656 ∧ m.r.key.length ≤ 281474976710656 := fun _ h => by cases h
  have hat : ∀ m ∈ ([] : List Mr), m.At (fun _ => True) w := fun _ h => by cases h
  have hkb : ∀ m ∈ ([] : List Mr), isBy m.r.key ∧ isBy m.r.val := fun _ h => by cases h
  have hl : ([] : List Mr).length ≤ maxLen := by simp
  have hld := empty_loads.1
  have hst := empty_loads.2
  have hb0 : Below w.heap.size w (w.alloc (.cells (wdC k o s m1 c1 m2 c2 (.slice none 0 c)) 26)) := by (repeat' (first | (with_reducible exact Below.refl _ _) | (with_reducible assumption) | (with_reducible refine Below.trans ?_ (Below.mono (by with_reducible assumption) ?_)) | (with_reducible refine Below.alloc ?_ ?_ _) | (with_reducible refine Below.setCell ?_ ?_ _) | (with_reducible refine below_drewN ?_ _) | (with_reducible refine Below.drew ?_) | go_size))
  have HH : Hid (Calls Tryd.prog 12 #[wdV k o s m1 c1 m2 c2 (.slice none 0 c)] (w.alloc (.cells (wdC k o s m1 c1 m2 c2 (.slice none 0 c)) 26)) fun e w' => (∃ b, e = .returned (.bool b) ∧ (b = false → ([] : List Mr).length ≤ 400)) ∧ Below (w.alloc (.cells (wdC k o s m1 c1 m2 c2 (.slice none 0 c)) 26)).heap.size (w.alloc (.cells (wdC k o s m1 c1 m2 c2 (.slice none 0 c)) 26)) w') := Lib.hid (law_heavy17 k o s m1 c1 m2 c2 none c [] _ (hrow.below hb0) hs hl)
  have HB0 := Lib.hid hb0
  have X0 := Lib.hid (Wd8.new w 26 k o s m1 c1 m2 c2 (.slice none 0 c))
  have HR := Lib.hid (fun (W : World) (q : Below w.heap.size w W) => hrow.below q)
  have HAT := Lib.hid (fun (W : World) (q : Below w.heap.size w W) => fun m hm => (hat m hm).below q)
  have HKB := Lib.hid hkb
  have HT := Lib.hid (fun (W : World) (q : Below w.heap.size w W) => ht.below q)
  have HOK := Lib.hid hok
  clear hrow hs hl hb0 hkb ht hok hat
  go_enter Tryd.func3, Tryd.ntmps3
  go_wp2_with fail
  refine HH.out.mono ?_; rintro e w1 ⟨⟨b, rfl, h4⟩, k1⟩
  have HB1 := Lib.hid (HB0.out.trans (k1.mono HB0.out.size))
  have HX1 := Lib.hid (X0.out.below k1)
  have H4 := Lib.hid h4
  clear k1 HH h4 X0 HB0
  cases b
  rotate_left
  · go_wp2
    go_ret
    exact ⟨rfl, HB1.out⟩
  have HL4 : Hid (([] : List Mr).length ≤ 400) := Lib.hid (H4.out (by first | rfl | trivial))
  clear H4
  obtain ⟨x0, x1, x2, x3, x4, x5, x6, x7, xlt⟩ := HX1.out
  have hz1w := HB1.out.size
  go_wp2_with fail
  have HXx4 : Hid (XB ((w1.alloc (.cells (wdC k o s m1 c1 m2 c2 (.slice (some ⟨w1.heap.size + 1, 0, none⟩) 0 0)) 26)).alloc (.cells #[] 89)) w1.heap.size [.int .i64 k, .int .i64 o, .int .i64 s, .int .i64 m1, .int .i64 c1, .int .i64 m2, .int .i64 c2, .slice (some ⟨w1.heap.size + 1, 0, none⟩) 0 0]) := Lib.hid ((XB.new w1 _ _).below ((Below.refl _ _).alloc (Nat.le_refl _) _))
  have HK5 : Hid (Below w1.heap.size w1 ((w1.alloc (.cells (wdC k o s m1 c1 m2 c2 (.slice (some ⟨w1.heap.size + 1, 0, none⟩) 0 0)) 26)).alloc (.cells #[] 89))) := Lib.hid (by (repeat' (first | (with_reducible exact Below.refl _ _) | (with_reducible assumption) | (with_reducible refine Below.trans ?_ (Below.mono (by with_reducible assumption) ?_)) | (with_reducible refine Below.alloc ?_ ?_ _) | (with_reducible refine Below.setCell ?_ ?_ _) | (with_reducible refine below_drewN ?_ _) | (with_reducible refine Below.drew ?_) | go_size)))
  clear x0 x1 x2 x3 x4 x5 x6 x7 xlt
  generalize ((w1.alloc (.cells (wdC k o s m1 c1 m2 c2 (.slice (some ⟨w1.heap.size + 1, 0, none⟩) 0 0)) 26)).alloc (.cells #[] 89)) = w4 at *
  have HRx : Hid (RowAt w4 (.slice (some ⟨w1.heap.size + 1, 0, none⟩) 0 0) []) := Lib.hid ⟨_, _, rfl, fun h => absurd h (by simp)⟩
  have HB4 := Lib.hid (HB1.out.trans (HK5.out.mono hz1w))
  have HX4 := Lib.hid (HX1.out.below HK5.out)
  clear HX1 HB1 HK5
  have HE : Hid (Calls Tryd.prog 13 #[wdV k o s m1 c1 m2 c2 (.slice (some ⟨(w1.heap.size + 1), 0, none⟩) 0 0)] w4 fun e w' => e = .returned (.tuple #[.slice none 0 0, .int .i64 1]) ∧ Below w4.heap.size w4 w') := Lib.hid (wd_enc_no k o s m1 c1 m2 c2 (some ⟨(w1.heap.size + 1), 0, none⟩) 0 [] w4 HRx.out (fun m hm => (HKB.out m hm).1) (by have := HL4.out; omega) HOK.out)
  (try go_wp2_with fail)
  refine HE.out.mono ?_; rintro e w5 ⟨rfl, k5⟩
  have HB5 := Lib.hid (HB4.out.trans (k5.mono HB4.out.size))
  have HX5 := Lib.hid (HX4.out.below k5)
  have HXx5 := Lib.hid (HXx4.out.below k5)
  clear HX4 HXx4 HE
  have HRx5 := Lib.hid (HRx.out.below k5)
  clear k5 HRx
  obtain ⟨x0, x1, x2, x3, x4, x5, x6, x7, xlt⟩ := HX5.out
  have HE : Hid (Calls Tryd.prog 14 #[wdV k o s m1 c1 m2 c2 (.slice none 0 c)] w5 fun e w' => e = .returned (.tuple #[.slice none 0 0, .int .i64 1]) ∧ Below w5.heap.size w5 w') := Lib.hid (rwd_enc_no k o s m1 c1 m2 c2 none c [] w5 (HR.out _ HB5.out) (fun m hm => (HKB.out m hm).1) (by have := HL4.out; omega) HOK.out)
  go_wp2_with fail
  refine HE.out.mono ?_; rintro e w6 ⟨rfl, k6⟩
  have HB6 := Lib.hid (HB5.out.trans (k6.mono HB5.out.size))
  have HX6 := Lib.hid (HX5.out.below k6)
  have HXx6 := Lib.hid (HXx5.out.below k6)
  clear HB5 HX5 HXx5 HE
  have HRx6 := Lib.hid (HRx5.out.below k6)
  clear k6 HRx5 x0 x1 x2 x3 x4 x5 x6 x7 xlt
  go_wp2_with fail
  refine (lsame_n none [] 0 0 none [] 0 0 w6 rfl rfl (by omega) (by omega) (ByL.nil _ _) (ByL.nil _ _) rfl).mono ?_; rintro e w7 ⟨rfl, k7⟩
  have HB7 := Lib.hid (HB6.out.trans (k7.mono HB6.out.size))
  have HX7 := Lib.hid (HX6.out.below k7)
  have HXx7 := Lib.hid (HXx6.out.below k7)
  clear HB6 HX6 HXx6 
  have HRx7 := Lib.hid (HRx6.out.below k7)
  clear k7 HRx6
  have HW : Hid (Calls Tryd.prog 16 #[wdV k o s m1 c1 m2 c2 (.slice (some ⟨(w1.heap.size + 1), 0, none⟩) 0 0), wdV k o s m1 c1 m2 c2 (.slice none 0 c)] w7 fun e w' => e = .returned (.bool true) ∧ Below w7.heap.size w7 w') := Lib.hid (words_yes k o s m1 c1 m2 c2 k o s m1 c1 m2 c2 (some ⟨(w1.heap.size + 1), 0, none⟩) none 0 c [] [] w7 HRx7.out (HR.out _ HB7.out) (HAT.out _ HB7.out) (HAT.out _ HB7.out) HKB.out HKB.out (by have := HL4.out; omega) rfl)
  obtain ⟨x0, x1, x2, x3, x4, x5, x6, x7, xlt⟩ := HX7.out
  have z0 := HXx7.out.c 0 _ rfl
  have z1 := HXx7.out.c 1 _ rfl
  have z2 := HXx7.out.c 2 _ rfl
  have z3 := HXx7.out.c 3 _ rfl
  have z4 := HXx7.out.c 4 _ rfl
  have z5 := HXx7.out.c 5 _ rfl
  have z6 := HXx7.out.c 6 _ rfl
  have z7 := HXx7.out.c 7 _ rfl
  have zlt := HXx7.out.lt
  go_wp2_with fail
  refine HW.out.mono ?_; rintro e w8 ⟨rfl, k8⟩
  have HB8 := Lib.hid (HB7.out.trans (k8.mono HB7.out.size))
  have HX8 := Lib.hid (HX7.out.below k8)
  clear k8 HW x0 x1 x2 x3 x4 x5 x6 x7 xlt z0 z1 z2 z3 z4 z5 z6 z7 zlt
  go_wp2_with fail
  refine (known17 _ (HT.out _ HB8.out)).mono ?_; rintro e w9 ⟨rfl, k9⟩
  have HB9 := Lib.hid (HB8.out.trans (k9.mono HB8.out.size))
  clear k9
  go_wp2
  go_ret
  exact ⟨rfl, HB9.out⟩
set_option maxRecDepth 100000 in
set_option maxHeartbeats 8000000 in
theorem enc_n_true (k o s m1 c1 m2 c2 : Int) (c : Nat) (w : World) (ht : Nib w) (hrow : RowAt w (.slice none 0 c) []) (hok : okW (wdOf k o s m1 c1 m2 c2 []) = true) :
    Calls Tryd.prog 3 #[wdV k o s m1 c1 m2 c2 (.slice none 0 c)] w fun e w' => e = .returned (.bool true) ∧ Below w.heap.size w w' := by
  obtain ⟨i0, hi0, hz0, hz1, hz2⟩ := info_parts rec_info
  have hs : ∀ m ∈ ([] : List Mr), m.r.val.length ≤ 281474976710656 ∧ m.r.key.length ≤ 281474976710656 := fun _ h => by cases h
  have hat : ∀ m ∈ ([] : List Mr), m.At (fun _ => True) w := fun _ h => by cases h
  have hkb : ∀ m ∈ ([] : List Mr), isBy m.r.key ∧ isBy m.r.val := fun _ h => by cases h
  have hl : ([] : List Mr).length ≤ maxLen := by simp
  have hld := empty_loads.1
  have hst := empty_loads.2
  have hb0 : Below w.heap.size w (w.alloc (.cells (wdC k o s m1 c1 m2 c2 (.slice none 0 c)) 26)) := by (repeat' (first | (with_reducible exact Below.refl _ _) | (with_reducible assumption) | (with_reducible refine Below.trans ?_ (Below.mono (by with_reducible assumption) ?_)) | (with_reducible refine Below.alloc ?_ ?_ _) | (with_reducible refine Below.setCell ?_ ?_ _) | (with_reducible refine below_drewN ?_ _) | (with_reducible refine Below.drew ?_) | go_size))
  have HH : Hid (Calls Tryd.prog 12 #[wdV k o s m1 c1 m2 c2 (.slice none 0 c)] (w.alloc (.cells (wdC k o s m1 c1 m2 c2 (.slice none 0 c)) 26)) fun e w' => (∃ b, e = .returned (.bool b) ∧ (b = false → ([] : List Mr).length ≤ 400)) ∧ Below (w.alloc (.cells (wdC k o s m1 c1 m2 c2 (.slice none 0 c)) 26)).heap.size (w.alloc (.cells (wdC k o s m1 c1 m2 c2 (.slice none 0 c)) 26)) w') := Lib.hid (law_heavy17 k o s m1 c1 m2 c2 none c [] _ (hrow.below hb0) hs hl)
  have HB0 := Lib.hid hb0
  have X0 := Lib.hid (Wd8.new w 26 k o s m1 c1 m2 c2 (.slice none 0 c))
  have HR := Lib.hid (fun (W : World) (q : Below w.heap.size w W) => hrow.below q)
  have HAT := Lib.hid (fun (W : World) (q : Below w.heap.size w W) => fun m hm => (hat m hm).below q)
  have HKB := Lib.hid hkb
  have HT := Lib.hid (fun (W : World) (q : Below w.heap.size w W) => ht.below q)
  have hbk : isBy (encW (wdOf k o s m1 c1 m2 c2 [])) := encW_by (fun r hr => by
    obtain ⟨m, hm, rfl⟩ := List.mem_map.1 hr
    exact hkb m hm)
  have HBD := Lib.hid (encW_bd hok)
  have HFY := Lib.hid (frE_by hbk)
  have HOWN := Lib.hid (wd_dec_own hok hbk)
  have HENC : Hid (∀ (W : World) (g : Nat) (cap : Nat), Nib W → RowAt W (.slice (some ⟨g, 0, none⟩) 0 cap) [] → (∀ m ∈ ([] : List Mr), m.At (fun _ => True) W) → ([] : List Mr).length ≤ 100000 → Calls Tryd.prog 13 #[wdV k o s m1 c1 m2 c2 (.slice (some ⟨g, 0, none⟩) 0 cap)] W fun e w' => (∃ g2 cap2, e = .returned (.tuple #[.slice (some ⟨g2, 0, none⟩) (12 + (encW (wdOf k o s m1 c1 m2 c2 [])).length) cap2, .int .i64 0]) ∧ Row8 W.heap.size w' g2 cap2 (12 + (encW (wdOf k o s m1 c1 m2 c2 [])).length) (frE (encW (wdOf k o s m1 c1 m2 c2 [])))) ∧ Below W.heap.size W w') := Lib.hid (fun W g cap q1 q2 q3 q4 => wd_enc k o s m1 c1 m2 c2 (some ⟨g, 0, none⟩) cap [] W q1 q2 q3 hkb q4 hok)
  have HREF : Hid (∀ (W : World), RowAt W (.slice none 0 c) [] → (∀ m ∈ ([] : List Mr), m.At (fun _ => True) W) → ([] : List Mr).length ≤ 100000 → Calls Tryd.prog 14 #[wdV k o s m1 c1 m2 c2 (.slice none 0 c)] W fun e w' => (∃ g2 cap2, e = .returned (.tuple #[.slice (some ⟨g2, 0, none⟩) (12 + (encW (wdOf k o s m1 c1 m2 c2 [])).length) cap2, .int .i64 0]) ∧ Row8 W.heap.size w' g2 cap2 (12 + (encW (wdOf k o s m1 c1 m2 c2 [])).length) (frE (encW (wdOf k o s m1 c1 m2 c2 [])))) ∧ Below W.heap.size W w') := Lib.hid (fun W q2 q3 q4 => rwd_enc k o s m1 c1 m2 c2 none c [] W q2 q3 hkb q4 hok)
  generalize encW (wdOf k o s m1 c1 m2 c2 []) = E at *
  obtain ⟨n, hn⟩ : ∃ n, 12 + E.length = n := ⟨_, rfl⟩
  have HN : Hid (0 < n ∧ n ≤ 1000000) := Lib.hid (by have := HBD.out; omega)
  rw [hn] at HENC HREF
  clear hn hbk
  have HOK := Lib.hid hok
  clear hrow hs hl hb0 hkb ht hok hat
  go_enter Tryd.func3, Tryd.ntmps3
  go_wp2_with fail
  refine HH.out.mono ?_; rintro e w1 ⟨⟨b, rfl, h4⟩, k1⟩
  have HB1 := Lib.hid (HB0.out.trans (k1.mono HB0.out.size))
  have HX1 := Lib.hid (X0.out.below k1)
  have H4 := Lib.hid h4
  clear k1 HH h4 X0 HB0
  cases b
  rotate_left
  · go_wp2
    go_ret
    exact ⟨rfl, HB1.out⟩
  have HL4 : Hid (([] : List Mr).length ≤ 400) := Lib.hid (H4.out (by first | rfl | trivial))
  clear H4
  obtain ⟨x0, x1, x2, x3, x4, x5, x6, x7, xlt⟩ := HX1.out
  have hz1w := HB1.out.size
  go_wp2_with fail
  have HXx4 : Hid (XB ((w1.alloc (.cells (wdC k o s m1 c1 m2 c2 (.slice (some ⟨w1.heap.size + 1, 0, none⟩) 0 0)) 26)).alloc (.cells #[] 89)) w1.heap.size [.int .i64 k, .int .i64 o, .int .i64 s, .int .i64 m1, .int .i64 c1, .int .i64 m2, .int .i64 c2, .slice (some ⟨w1.heap.size + 1, 0, none⟩) 0 0]) := Lib.hid ((XB.new w1 _ _).below ((Below.refl _ _).alloc (Nat.le_refl _) _))
  have HK5 : Hid (Below w1.heap.size w1 ((w1.alloc (.cells (wdC k o s m1 c1 m2 c2 (.slice (some ⟨w1.heap.size + 1, 0, none⟩) 0 0)) 26)).alloc (.cells #[] 89))) := Lib.hid (by (repeat' (first | (with_reducible exact Below.refl _ _) | (with_reducible assumption) | (with_reducible refine Below.trans ?_ (Below.mono (by with_reducible assumption) ?_)) | (with_reducible refine Below.alloc ?_ ?_ _) | (with_reducible refine Below.setCell ?_ ?_ _) | (with_reducible refine below_drewN ?_ _) | (with_reducible refine Below.drew ?_) | go_size)))
  clear x0 x1 x2 x3 x4 x5 x6 x7 xlt
  generalize ((w1.alloc (.cells (wdC k o s m1 c1 m2 c2 (.slice (some ⟨w1.heap.size + 1, 0, none⟩) 0 0)) 26)).alloc (.cells #[] 89)) = w4 at *
  have HRx : Hid (RowAt w4 (.slice (some ⟨w1.heap.size + 1, 0, none⟩) 0 0) []) := Lib.hid ⟨_, _, rfl, fun h => absurd h (by simp)⟩
  have HB4 := Lib.hid (HB1.out.trans (HK5.out.mono hz1w))
  have HX4 := Lib.hid (HX1.out.below HK5.out)
  clear HX1 HB1 HK5
  have HE := Lib.hid (HENC.out w4 (w1.heap.size + 1) 0 (HT.out _ HB4.out) HRx.out (HAT.out _ HB4.out) (by have := HL4.out; omega))
  (try go_wp2_with fail)
  refine HE.out.mono ?_; rintro e w5 ⟨⟨g5, cap5, rfl, hr5⟩, k5⟩
  have HB5 := Lib.hid (HB4.out.trans (k5.mono HB4.out.size))
  have HX5 := Lib.hid (HX4.out.below k5)
  have HXx5 := Lib.hid (HXx4.out.below k5)
  clear HB4 HX4 HXx4 HE
  have HRx5 := Lib.hid (HRx.out.below k5)
  have HA5 := Lib.hid hr5
  clear k5 HRx hr5 HENC
  obtain ⟨x0, x1, x2, x3, x4, x5, x6, x7, xlt⟩ := HX5.out
  have HE := Lib.hid (HREF.out w5 (HR.out _ HB5.out) (HAT.out _ HB5.out) (by have := HL4.out; omega))
  go_wp2_with fail
  refine HE.out.mono ?_; rintro e w6 ⟨⟨g6, cap6, rfl, hr6⟩, k6⟩
  have HB6 := Lib.hid (HB5.out.trans (k6.mono HB5.out.size))
  have HX6 := Lib.hid (HX5.out.below k6)
  have HXx6 := Lib.hid (HXx5.out.below k6)
  clear HB5 HX5 HXx5 HE
  have HRx6 := Lib.hid (HRx5.out.below k6)
  have HA6 := Lib.hid (HA5.out.below k6)
  have HS := Lib.hid (lsame_n (some ⟨g5, 0, none⟩) (frE E) n cap5 (some ⟨g6, 0, none⟩) (frE E) n cap6 w6 HA6.out.len hr6.len HN.out.2 HN.out.2 HA6.out.by_ hr6.by_ rfl)
  clear k6 HRx5 hr6 HREF HA5 x0 x1 x2 x3 x4 x5 x6 x7 xlt
  go_wp2_with fail
  refine HS.out.mono ?_; rintro e w7 ⟨rfl, k7⟩
  have HB7 := Lib.hid (HB6.out.trans (k7.mono HB6.out.size))
  have HX7 := Lib.hid (HX6.out.below k7)
  have HXx7 := Lib.hid (HXx6.out.below k7)
  clear HB6 HX6 HXx6 HS
  have HRx7 := Lib.hid (HRx6.out.below k7)
  have HA7 := Lib.hid (HA6.out.below k7)
  clear k7 HRx6 HA6
  have HW : Hid (Calls Tryd.prog 16 #[wdV k o s m1 c1 m2 c2 (.slice (some ⟨(w1.heap.size + 1), 0, none⟩) 0 0), wdV k o s m1 c1 m2 c2 (.slice none 0 c)] w7 fun e w' => e = .returned (.bool true) ∧ Below w7.heap.size w7 w') := Lib.hid (words_yes k o s m1 c1 m2 c2 k o s m1 c1 m2 c2 (some ⟨(w1.heap.size + 1), 0, none⟩) none 0 c [] [] w7 HRx7.out (HR.out _ HB7.out) (HAT.out _ HB7.out) (HAT.out _ HB7.out) HKB.out HKB.out (by have := HL4.out; omega) rfl)
  obtain ⟨x0, x1, x2, x3, x4, x5, x6, x7, xlt⟩ := HX7.out
  have z0 := HXx7.out.c 0 _ rfl
  have z1 := HXx7.out.c 1 _ rfl
  have z2 := HXx7.out.c 2 _ rfl
  have z3 := HXx7.out.c 3 _ rfl
  have z4 := HXx7.out.c 4 _ rfl
  have z5 := HXx7.out.c 5 _ rfl
  have z6 := HXx7.out.c 6 _ rfl
  have z7 := HXx7.out.c 7 _ rfl
  have zlt := HXx7.out.lt
  go_wp2_with fail
  refine HW.out.mono ?_; rintro e w8 ⟨rfl, k8⟩
  have HB8 := Lib.hid (HB7.out.trans (k8.mono HB7.out.size))
  have HX8 := Lib.hid (HX7.out.below k8)
  have HA8 := HA7.out.below k8
  have HD := Lib.hid (wd_dec_n (some ⟨g5, 0, none⟩) (frE E) n cap5 w8 HA8.len (HT.out _ HB8.out) HA8.by_ HFY.out HN.out.2 HA8.cap_le.1 HA8.cap_le.2 HOWN.out.1 HOWN.out.2.1)
  clear HA8 k8 HW x0 x1 x2 x3 x4 x5 x6 x7 xlt z0 z1 z2 z3 z4 z5 z6 z7 zlt
  go_wp2_with fail
  refine HD.out.mono ?_; rintro e w9 ⟨hres, k9⟩
  rcases hres with ⟨hno, _⟩ | ⟨k', o', s', m1', c1', m2', c2', L', A', c', hd, rfl, hown, hl64, hats, hbys⟩
  · have := HOWN.out.2.2
    rw [hno] at this
    cases this
  have HEQ : Hid (wdOf k' o' s' m1' c1' m2' c2' L' = (wdOf k o s m1 c1 m2 c2 [])) := Lib.hid (Option.some.inj (hd.symm.trans HOWN.out.2.2))
  have kA : Below w9.heap.size w9 (w9.alloc (.cells (wdC k' o' s' m1' c1' m2' c2' (.slice A' L'.length c')) 26)) := (Below.refl _ _).alloc (Nat.le_refl _) _
  have HB9 := Lib.hid (HB8.out.trans (k9.mono HB8.out.size))
  have HBA := Lib.hid (HB9.out.trans (kA.mono HB9.out.size))
  have HW : Hid (Calls Tryd.prog 16 #[wdV k' o' s' m1' c1' m2' c2' (.slice A' L'.length c'), wdV k o s m1 c1 m2 c2 (.slice none 0 c)] (w9.alloc (.cells (wdC k' o' s' m1' c1' m2' c2' (.slice A' L'.length c')) 26)) fun e w' => e = .returned (.bool true) ∧ Below (w9.alloc (.cells (wdC k' o' s' m1' c1' m2' c2' (.slice A' L'.length c')) 26)).heap.size (w9.alloc (.cells (wdC k' o' s' m1' c1' m2' c2' (.slice A' L'.length c')) 26)) w') := Lib.hid (words_yes k' o' s' m1' c1' m2' c2' k o s m1 c1 m2 c2 A' none c' c L' [] _ ((RowAt.of hown).below kA) (HR.out _ HBA.out) (fun m hm => ((hats m hm).below kA).mono (fun _ _ _ => trivial)) (HAT.out _ HBA.out) hbys HKB.out (by omega) HEQ.out)
  obtain ⟨x0, x1, x2, x3, x4, x5, x6, x7, xlt⟩ := (HX8.out.below k9)
  clear hd hown hl64 hats hbys kA k9 HD HX8
  go_wp2_with fail
  refine HW.out.mono ?_; rintro e w10 ⟨rfl, k10⟩
  have HB10 := Lib.hid (HBA.out.trans (k10.mono HBA.out.size))
  clear k10 HW x0 x1 x2 x3 x4 x5 x6 x7 xlt
  go_wp2_with fail
  refine (known17 _ (HT.out _ HB10.out)).mono ?_; rintro e w11 ⟨rfl, k11⟩
  have HB11 := Lib.hid (HB10.out.trans (k11.mono HB10.out.size))
  clear k11
  go_wp2
  go_ret
  exact ⟨rfl, HB11.out⟩
set_option maxRecDepth 100000 in
set_option maxHeartbeats 8000000 in
theorem enc_s_false (k o s m1 c1 m2 c2 : Int) (ad : Addr) (c : Nat) (w : World) (ht : Nib w) (hrow : RowAt w (.slice (some ad) 0 c) []) (hok : okW (wdOf k o s m1 c1 m2 c2 []) = false) :
    Calls Tryd.prog 3 #[wdV k o s m1 c1 m2 c2 (.slice (some ad) 0 c)] w fun e w' => e = .returned (.bool true) ∧ Below w.heap.size w w' := by
  obtain ⟨i0, hi0, hz0, hz1, hz2⟩ := info_parts rec_info
  have hs : ∀ m ∈ ([] : List Mr), m.r.val.length ≤ 281474976710656 ∧ m.r.key.length ≤ 281474976710656 := fun _ h => by cases h
  have hat : ∀ m ∈ ([] : List Mr), m.At (fun _ => True) w := fun _ h => by cases h
  have hkb : ∀ m ∈ ([] : List Mr), isBy m.r.key ∧ isBy m.r.val := fun _ h => by cases h
  have hl : ([] : List Mr).length ≤ maxLen := by simp
  have hld := empty_loads.1
  have hst := empty_loads.2
  have hb0 : Below w.heap.size w (w.alloc (.cells (wdC k o s m1 c1 m2 c2 (.slice (some ad) 0 c)) 26)) := by (repeat' (first | (with_reducible exact Below.refl _ _) | (with_reducible assumption) | (with_reducible refine Below.trans ?_ (Below.mono (by with_reducible assumption) ?_)) | (with_reducible refine Below.alloc ?_ ?_ _) | (with_reducible refine Below.setCell ?_ ?_ _) | (with_reducible refine below_drewN ?_ _) | (with_reducible refine Below.drew ?_) | go_size))
  have HH : Hid (Calls Tryd.prog 12 #[wdV k o s m1 c1 m2 c2 (.slice (some ad) 0 c)] (w.alloc (.cells (wdC k o s m1 c1 m2 c2 (.slice (some ad) 0 c)) 26)) fun e w' => (∃ b, e = .returned (.bool b) ∧ (b = false → ([] : List Mr).length ≤ 400)) ∧ Below (w.alloc (.cells (wdC k o s m1 c1 m2 c2 (.slice (some ad) 0 c)) 26)).heap.size (w.alloc (.cells (wdC k o s m1 c1 m2 c2 (.slice (some ad) 0 c)) 26)) w') := Lib.hid (law_heavy17 k o s m1 c1 m2 c2 (some ad) c [] _ (hrow.below hb0) hs hl)
  have HB0 := Lib.hid hb0
  have X0 := Lib.hid (Wd8.new w 26 k o s m1 c1 m2 c2 (.slice (some ad) 0 c))
  have HR := Lib.hid (fun (W : World) (q : Below w.heap.size w W) => hrow.below q)
  have HAT := Lib.hid (fun (W : World) (q : Below w.heap.size w W) => fun m hm => (hat m hm).below q)
  have HKB := Lib.hid hkb
  have HT := Lib.hid (fun (W : World) (q : Below w.heap.size w W) => ht.below q)
  have HOK := Lib.hid hok
  clear hrow hs hl hb0 hkb ht hok hat
  go_enter Tryd.func3, Tryd.ntmps3
  go_wp2_with fail
  refine HH.out.mono ?_; rintro e w1 ⟨⟨b, rfl, h4⟩, k1⟩
  have HB1 := Lib.hid (HB0.out.trans (k1.mono HB0.out.size))
  have HX1 := Lib.hid (X0.out.below k1)
  have H4 := Lib.hid h4
  clear k1 HH h4 X0 HB0
  cases b
  rotate_left
  · go_wp2
    go_ret
    exact ⟨rfl, HB1.out⟩
  have HL4 : Hid (([] : List Mr).length ≤ 400) := Lib.hid (H4.out (by first | rfl | trivial))
  clear H4
  obtain ⟨x0, x1, x2, x3, x4, x5, x6, x7, xlt⟩ := HX1.out
  have hz1w := HB1.out.size
  go_wp2_with fail
  have HXx4 : Hid (XB ((w1.alloc (.cells (wdC k o s m1 c1 m2 c2 (.slice (some ⟨w1.heap.size + 1, 0, none⟩) 0 0)) 26)).alloc (.cells #[] 89)) w1.heap.size [.int .i64 k, .int .i64 o, .int .i64 s, .int .i64 m1, .int .i64 c1, .int .i64 m2, .int .i64 c2, .slice (some ⟨w1.heap.size + 1, 0, none⟩) 0 0]) := Lib.hid ((XB.new w1 _ _).below ((Below.refl _ _).alloc (Nat.le_refl _) _))
  have HK5 : Hid (Below w1.heap.size w1 ((w1.alloc (.cells (wdC k o s m1 c1 m2 c2 (.slice (some ⟨w1.heap.size + 1, 0, none⟩) 0 0)) 26)).alloc (.cells #[] 89))) := Lib.hid (by (repeat' (first | (with_reducible exact Below.refl _ _) | (with_reducible assumption) | (with_reducible refine Below.trans ?_ (Below.mono (by with_reducible assumption) ?_)) | (with_reducible refine Below.alloc ?_ ?_ _) | (with_reducible refine Below.setCell ?_ ?_ _) | (with_reducible refine below_drewN ?_ _) | (with_reducible refine Below.drew ?_) | go_size)))
  clear x0 x1 x2 x3 x4 x5 x6 x7 xlt
  generalize ((w1.alloc (.cells (wdC k o s m1 c1 m2 c2 (.slice (some ⟨w1.heap.size + 1, 0, none⟩) 0 0)) 26)).alloc (.cells #[] 89)) = w4 at *
  have HRx : Hid (RowAt w4 (.slice (some ⟨w1.heap.size + 1, 0, none⟩) 0 0) []) := Lib.hid ⟨_, _, rfl, fun h => absurd h (by simp)⟩
  have HB4 := Lib.hid (HB1.out.trans (HK5.out.mono hz1w))
  have HX4 := Lib.hid (HX1.out.below HK5.out)
  clear HX1 HB1 HK5
  have HE : Hid (Calls Tryd.prog 13 #[wdV k o s m1 c1 m2 c2 (.slice (some ⟨(w1.heap.size + 1), 0, none⟩) 0 0)] w4 fun e w' => e = .returned (.tuple #[.slice none 0 0, .int .i64 1]) ∧ Below w4.heap.size w4 w') := Lib.hid (wd_enc_no k o s m1 c1 m2 c2 (some ⟨(w1.heap.size + 1), 0, none⟩) 0 [] w4 HRx.out (fun m hm => (HKB.out m hm).1) (by have := HL4.out; omega) HOK.out)
  (try go_wp2_with fail)
  refine HE.out.mono ?_; rintro e w5 ⟨rfl, k5⟩
  have HB5 := Lib.hid (HB4.out.trans (k5.mono HB4.out.size))
  have HX5 := Lib.hid (HX4.out.below k5)
  have HXx5 := Lib.hid (HXx4.out.below k5)
  clear HX4 HXx4 HE
  have HRx5 := Lib.hid (HRx.out.below k5)
  clear k5 HRx
  obtain ⟨x0, x1, x2, x3, x4, x5, x6, x7, xlt⟩ := HX5.out
  have HE : Hid (Calls Tryd.prog 14 #[wdV k o s m1 c1 m2 c2 (.slice (some ad) 0 c)] w5 fun e w' => e = .returned (.tuple #[.slice none 0 0, .int .i64 1]) ∧ Below w5.heap.size w5 w') := Lib.hid (rwd_enc_no k o s m1 c1 m2 c2 (some ad) c [] w5 (HR.out _ HB5.out) (fun m hm => (HKB.out m hm).1) (by have := HL4.out; omega) HOK.out)
  go_wp2_with fail
  refine HE.out.mono ?_; rintro e w6 ⟨rfl, k6⟩
  have HB6 := Lib.hid (HB5.out.trans (k6.mono HB5.out.size))
  have HX6 := Lib.hid (HX5.out.below k6)
  have HXx6 := Lib.hid (HXx5.out.below k6)
  clear HB5 HX5 HXx5 HE
  have HRx6 := Lib.hid (HRx5.out.below k6)
  clear k6 HRx5 x0 x1 x2 x3 x4 x5 x6 x7 xlt
  go_wp2_with fail
  refine (lsame_n none [] 0 0 none [] 0 0 w6 rfl rfl (by omega) (by omega) (ByL.nil _ _) (ByL.nil _ _) rfl).mono ?_; rintro e w7 ⟨rfl, k7⟩
  have HB7 := Lib.hid (HB6.out.trans (k7.mono HB6.out.size))
  have HX7 := Lib.hid (HX6.out.below k7)
  have HXx7 := Lib.hid (HXx6.out.below k7)
  clear HB6 HX6 HXx6 
  have HRx7 := Lib.hid (HRx6.out.below k7)
  clear k7 HRx6
  have HW : Hid (Calls Tryd.prog 16 #[wdV k o s m1 c1 m2 c2 (.slice (some ⟨(w1.heap.size + 1), 0, none⟩) 0 0), wdV k o s m1 c1 m2 c2 (.slice (some ad) 0 c)] w7 fun e w' => e = .returned (.bool true) ∧ Below w7.heap.size w7 w') := Lib.hid (words_yes k o s m1 c1 m2 c2 k o s m1 c1 m2 c2 (some ⟨(w1.heap.size + 1), 0, none⟩) (some ad) 0 c [] [] w7 HRx7.out (HR.out _ HB7.out) (HAT.out _ HB7.out) (HAT.out _ HB7.out) HKB.out HKB.out (by have := HL4.out; omega) rfl)
  obtain ⟨x0, x1, x2, x3, x4, x5, x6, x7, xlt⟩ := HX7.out
  have z0 := HXx7.out.c 0 _ rfl
  have z1 := HXx7.out.c 1 _ rfl
  have z2 := HXx7.out.c 2 _ rfl
  have z3 := HXx7.out.c 3 _ rfl
  have z4 := HXx7.out.c 4 _ rfl
  have z5 := HXx7.out.c 5 _ rfl
  have z6 := HXx7.out.c 6 _ rfl
  have z7 := HXx7.out.c 7 _ rfl
  have zlt := HXx7.out.lt
  go_wp2_with fail
  refine HW.out.mono ?_; rintro e w8 ⟨rfl, k8⟩
  have HB8 := Lib.hid (HB7.out.trans (k8.mono HB7.out.size))
  have HX8 := Lib.hid (HX7.out.below k8)
  clear k8 HW x0 x1 x2 x3 x4 x5 x6 x7 xlt z0 z1 z2 z3 z4 z5 z6 z7 zlt
  go_wp2_with fail
  refine (known17 _ (HT.out _ HB8.out)).mono ?_; rintro e w9 ⟨rfl, k9⟩
  have HB9 := Lib.hid (HB8.out.trans (k9.mono HB8.out.size))
  clear k9
  go_wp2
  go_ret
  exact ⟨rfl, HB9.out⟩
set_option maxRecDepth 100000 in
set_option maxHeartbeats 8000000 in
theorem enc_s_true (k o s m1 c1 m2 c2 : Int) (ad : Addr) (c : Nat) (w : World) (ht : Nib w) (hrow : RowAt w (.slice (some ad) 0 c) []) (hok : okW (wdOf k o s m1 c1 m2 c2 []) = true) :
    Calls Tryd.prog 3 #[wdV k o s m1 c1 m2 c2 (.slice (some ad) 0 c)] w fun e w' => e = .returned (.bool true) ∧ Below w.heap.size w w' := by
  obtain ⟨i0, hi0, hz0, hz1, hz2⟩ := info_parts rec_info
  have hs : ∀ m ∈ ([] : List Mr), m.r.val.length ≤ 281474976710656 ∧ m.r.key.length ≤ 281474976710656 := fun _ h => by cases h
  have hat : ∀ m ∈ ([] : List Mr), m.At (fun _ => True) w := fun _ h => by cases h
  have hkb : ∀ m ∈ ([] : List Mr), isBy m.r.key ∧ isBy m.r.val := fun _ h => by cases h
  have hl : ([] : List Mr).length ≤ maxLen := by simp
  have hld := empty_loads.1
  have hst := empty_loads.2
  have hb0 : Below w.heap.size w (w.alloc (.cells (wdC k o s m1 c1 m2 c2 (.slice (some ad) 0 c)) 26)) := by (repeat' (first | (with_reducible exact Below.refl _ _) | (with_reducible assumption) | (with_reducible refine Below.trans ?_ (Below.mono (by with_reducible assumption) ?_)) | (with_reducible refine Below.alloc ?_ ?_ _) | (with_reducible refine Below.setCell ?_ ?_ _) | (with_reducible refine below_drewN ?_ _) | (with_reducible refine Below.drew ?_) | go_size))
  have HH : Hid (Calls Tryd.prog 12 #[wdV k o s m1 c1 m2 c2 (.slice (some ad) 0 c)] (w.alloc (.cells (wdC k o s m1 c1 m2 c2 (.slice (some ad) 0 c)) 26)) fun e w' => (∃ b, e = .returned (.bool b) ∧ (b = false → ([] : List Mr).length ≤ 400)) ∧ Below (w.alloc (.cells (wdC k o s m1 c1 m2 c2 (.slice (some ad) 0 c)) 26)).heap.size (w.alloc (.cells (wdC k o s m1 c1 m2 c2 (.slice (some ad) 0 c)) 26)) w') := Lib.hid (law_heavy17 k o s m1 c1 m2 c2 (some ad) c [] _ (hrow.below hb0) hs hl)
  have HB0 := Lib.hid hb0
  have X0 := Lib.hid (Wd8.new w 26 k o s m1 c1 m2 c2 (.slice (some ad) 0 c))
  have HR := Lib.hid (fun (W : World) (q : Below w.heap.size w W) => hrow.below q)
  have HAT := Lib.hid (fun (W : World) (q : Below w.heap.size w W) => fun m hm => (hat m hm).below q)
  have HKB := Lib.hid hkb
  have HT := Lib.hid (fun (W : World) (q : Below w.heap.size w W) => ht.below q)
  have hbk : isBy (encW (wdOf k o s m1 c1 m2 c2 [])) := encW_by (fun r hr => by
    obtain ⟨m, hm, rfl⟩ := List.mem_map.1 hr
    exact hkb m hm)
  have HBD := Lib.hid (encW_bd hok)
  have HFY := Lib.hid (frE_by hbk)
  have HOWN := Lib.hid (wd_dec_own hok hbk)
  have HENC : Hid (∀ (W : World) (g : Nat) (cap : Nat), Nib W → RowAt W (.slice (some ⟨g, 0, none⟩) 0 cap) [] → (∀ m ∈ ([] : List Mr), m.At (fun _ => True) W) → ([] : List Mr).length ≤ 100000 → Calls Tryd.prog 13 #[wdV k o s m1 c1 m2 c2 (.slice (some ⟨g, 0, none⟩) 0 cap)] W fun e w' => (∃ g2 cap2, e = .returned (.tuple #[.slice (some ⟨g2, 0, none⟩) (12 + (encW (wdOf k o s m1 c1 m2 c2 [])).length) cap2, .int .i64 0]) ∧ Row8 W.heap.size w' g2 cap2 (12 + (encW (wdOf k o s m1 c1 m2 c2 [])).length) (frE (encW (wdOf k o s m1 c1 m2 c2 [])))) ∧ Below W.heap.size W w') := Lib.hid (fun W g cap q1 q2 q3 q4 => wd_enc k o s m1 c1 m2 c2 (some ⟨g, 0, none⟩) cap [] W q1 q2 q3 hkb q4 hok)
  have HREF : Hid (∀ (W : World), RowAt W (.slice (some ad) 0 c) [] → (∀ m ∈ ([] : List Mr), m.At (fun _ => True) W) → ([] : List Mr).length ≤ 100000 → Calls Tryd.prog 14 #[wdV k o s m1 c1 m2 c2 (.slice (some ad) 0 c)] W fun e w' => (∃ g2 cap2, e = .returned (.tuple #[.slice (some ⟨g2, 0, none⟩) (12 + (encW (wdOf k o s m1 c1 m2 c2 [])).length) cap2, .int .i64 0]) ∧ Row8 W.heap.size w' g2 cap2 (12 + (encW (wdOf k o s m1 c1 m2 c2 [])).length) (frE (encW (wdOf k o s m1 c1 m2 c2 [])))) ∧ Below W.heap.size W w') := Lib.hid (fun W q2 q3 q4 => rwd_enc k o s m1 c1 m2 c2 (some ad) c [] W q2 q3 hkb q4 hok)
  generalize encW (wdOf k o s m1 c1 m2 c2 []) = E at *
  obtain ⟨n, hn⟩ : ∃ n, 12 + E.length = n := ⟨_, rfl⟩
  have HN : Hid (0 < n ∧ n ≤ 1000000) := Lib.hid (by have := HBD.out; omega)
  rw [hn] at HENC HREF
  clear hn hbk
  have HOK := Lib.hid hok
  clear hrow hs hl hb0 hkb ht hok hat
  go_enter Tryd.func3, Tryd.ntmps3
  go_wp2_with fail
  refine HH.out.mono ?_; rintro e w1 ⟨⟨b, rfl, h4⟩, k1⟩
  have HB1 := Lib.hid (HB0.out.trans (k1.mono HB0.out.size))
  have HX1 := Lib.hid (X0.out.below k1)
  have H4 := Lib.hid h4
  clear k1 HH h4 X0 HB0
  cases b
  rotate_left
  · go_wp2
    go_ret
    exact ⟨rfl, HB1.out⟩
  have HL4 : Hid (([] : List Mr).length ≤ 400) := Lib.hid (H4.out (by first | rfl | trivial))
  clear H4
  obtain ⟨x0, x1, x2, x3, x4, x5, x6, x7, xlt⟩ := HX1.out
  have hz1w := HB1.out.size
  go_wp2_with fail
  have HXx4 : Hid (XB ((w1.alloc (.cells (wdC k o s m1 c1 m2 c2 (.slice (some ⟨w1.heap.size + 1, 0, none⟩) 0 0)) 26)).alloc (.cells #[] 89)) w1.heap.size [.int .i64 k, .int .i64 o, .int .i64 s, .int .i64 m1, .int .i64 c1, .int .i64 m2, .int .i64 c2, .slice (some ⟨w1.heap.size + 1, 0, none⟩) 0 0]) := Lib.hid ((XB.new w1 _ _).below ((Below.refl _ _).alloc (Nat.le_refl _) _))
  have HK5 : Hid (Below w1.heap.size w1 ((w1.alloc (.cells (wdC k o s m1 c1 m2 c2 (.slice (some ⟨w1.heap.size + 1, 0, none⟩) 0 0)) 26)).alloc (.cells #[] 89))) := Lib.hid (by (repeat' (first | (with_reducible exact Below.refl _ _) | (with_reducible assumption) | (with_reducible refine Below.trans ?_ (Below.mono (by with_reducible assumption) ?_)) | (with_reducible refine Below.alloc ?_ ?_ _) | (with_reducible refine Below.setCell ?_ ?_ _) | (with_reducible refine below_drewN ?_ _) | (with_reducible refine Below.drew ?_) | go_size)))
  clear x0 x1 x2 x3 x4 x5 x6 x7 xlt
  generalize ((w1.alloc (.cells (wdC k o s m1 c1 m2 c2 (.slice (some ⟨w1.heap.size + 1, 0, none⟩) 0 0)) 26)).alloc (.cells #[] 89)) = w4 at *
  have HRx : Hid (RowAt w4 (.slice (some ⟨w1.heap.size + 1, 0, none⟩) 0 0) []) := Lib.hid ⟨_, _, rfl, fun h => absurd h (by simp)⟩
  have HB4 := Lib.hid (HB1.out.trans (HK5.out.mono hz1w))
  have HX4 := Lib.hid (HX1.out.below HK5.out)
  clear HX1 HB1 HK5
  have HE := Lib.hid (HENC.out w4 (w1.heap.size + 1) 0 (HT.out _ HB4.out) HRx.out (HAT.out _ HB4.out) (by have := HL4.out; omega))
  (try go_wp2_with fail)
  refine HE.out.mono ?_; rintro e w5 ⟨⟨g5, cap5, rfl, hr5⟩, k5⟩
  have HB5 := Lib.hid (HB4.out.trans (k5.mono HB4.out.size))
  have HX5 := Lib.hid (HX4.out.below k5)
  have HXx5 := Lib.hid (HXx4.out.below k5)
  clear HB4 HX4 HXx4 HE
  have HRx5 := Lib.hid (HRx.out.below k5)
  have HA5 := Lib.hid hr5
  clear k5 HRx hr5 HENC
  obtain ⟨x0, x1, x2, x3, x4, x5, x6, x7, xlt⟩ := HX5.out
  have HE := Lib.hid (HREF.out w5 (HR.out _ HB5.out) (HAT.out _ HB5.out) (by have := HL4.out; omega))
  go_wp2_with fail
  refine HE.out.mono ?_; rintro e w6 ⟨⟨g6, cap6, rfl, hr6⟩, k6⟩
  have HB6 := Lib.hid (HB5.out.trans (k6.mono HB5.out.size))
  have HX6 := Lib.hid (HX5.out.below k6)
  have HXx6 := Lib.hid (HXx5.out.below k6)
  clear HB5 HX5 HXx5 HE
  have HRx6 := Lib.hid (HRx5.out.below k6)
  have HA6 := Lib.hid (HA5.out.below k6)
  have HS := Lib.hid (lsame_n (some ⟨g5, 0, none⟩) (frE E) n cap5 (some ⟨g6, 0, none⟩) (frE E) n cap6 w6 HA6.out.len hr6.len HN.out.2 HN.out.2 HA6.out.by_ hr6.by_ rfl)
  clear k6 HRx5 hr6 HREF HA5 x0 x1 x2 x3 x4 x5 x6 x7 xlt
  go_wp2_with fail
  refine HS.out.mono ?_; rintro e w7 ⟨rfl, k7⟩
  have HB7 := Lib.hid (HB6.out.trans (k7.mono HB6.out.size))
  have HX7 := Lib.hid (HX6.out.below k7)
  have HXx7 := Lib.hid (HXx6.out.below k7)
  clear HB6 HX6 HXx6 HS
  have HRx7 := Lib.hid (HRx6.out.below k7)
  have HA7 := Lib.hid (HA6.out.below k7)
  clear k7 HRx6 HA6
  have HW : Hid (Calls Tryd.prog 16 #[wdV k o s m1 c1 m2 c2 (.slice (some ⟨(w1.heap.size + 1), 0, none⟩) 0 0), wdV k o s m1 c1 m2 c2 (.slice (some ad) 0 c)] w7 fun e w' => e = .returned (.bool true) ∧ Below w7.heap.size w7 w') := Lib.hid (words_yes k o s m1 c1 m2 c2 k o s m1 c1 m2 c2 (some ⟨(w1.heap.size + 1), 0, none⟩) (some ad) 0 c [] [] w7 HRx7.out (HR.out _ HB7.out) (HAT.out _ HB7.out) (HAT.out _ HB7.out) HKB.out HKB.out (by have := HL4.out; omega) rfl)
  obtain ⟨x0, x1, x2, x3, x4, x5, x6, x7, xlt⟩ := HX7.out
  have z0 := HXx7.out.c 0 _ rfl
  have z1 := HXx7.out.c 1 _ rfl
  have z2 := HXx7.out.c 2 _ rfl
  have z3 := HXx7.out.c 3 _ rfl
  have z4 := HXx7.out.c 4 _ rfl
  have z5 := HXx7.out.c 5 _ rfl
  have z6 := HXx7.out.c 6 _ rfl
  have z7 := HXx7.out.c 7 _ rfl
  have zlt := HXx7.out.lt
  go_wp2_with fail
  refine HW.out.mono ?_; rintro e w8 ⟨rfl, k8⟩
  have HB8 := Lib.hid (HB7.out.trans (k8.mono HB7.out.size))
  have HX8 := Lib.hid (HX7.out.below k8)
  have HA8 := HA7.out.below k8
  have HD := Lib.hid (wd_dec_n (some ⟨g5, 0, none⟩) (frE E) n cap5 w8 HA8.len (HT.out _ HB8.out) HA8.by_ HFY.out HN.out.2 HA8.cap_le.1 HA8.cap_le.2 HOWN.out.1 HOWN.out.2.1)
  clear HA8 k8 HW x0 x1 x2 x3 x4 x5 x6 x7 xlt z0 z1 z2 z3 z4 z5 z6 z7 zlt
  go_wp2_with fail
  refine HD.out.mono ?_; rintro e w9 ⟨hres, k9⟩
  rcases hres with ⟨hno, _⟩ | ⟨k', o', s', m1', c1', m2', c2', L', A', c', hd, rfl, hown, hl64, hats, hbys⟩
  · have := HOWN.out.2.2
    rw [hno] at this
    cases this
  have HEQ : Hid (wdOf k' o' s' m1' c1' m2' c2' L' = (wdOf k o s m1 c1 m2 c2 [])) := Lib.hid (Option.some.inj (hd.symm.trans HOWN.out.2.2))
  have kA : Below w9.heap.size w9 (w9.alloc (.cells (wdC k' o' s' m1' c1' m2' c2' (.slice A' L'.length c')) 26)) := (Below.refl _ _).alloc (Nat.le_refl _) _
  have HB9 := Lib.hid (HB8.out.trans (k9.mono HB8.out.size))
  have HBA := Lib.hid (HB9.out.trans (kA.mono HB9.out.size))
  have HW : Hid (Calls Tryd.prog 16 #[wdV k' o' s' m1' c1' m2' c2' (.slice A' L'.length c'), wdV k o s m1 c1 m2 c2 (.slice (some ad) 0 c)] (w9.alloc (.cells (wdC k' o' s' m1' c1' m2' c2' (.slice A' L'.length c')) 26)) fun e w' => e = .returned (.bool true) ∧ Below (w9.alloc (.cells (wdC k' o' s' m1' c1' m2' c2' (.slice A' L'.length c')) 26)).heap.size (w9.alloc (.cells (wdC k' o' s' m1' c1' m2' c2' (.slice A' L'.length c')) 26)) w') := Lib.hid (words_yes k' o' s' m1' c1' m2' c2' k o s m1 c1 m2 c2 A' (some ad) c' c L' [] _ ((RowAt.of hown).below kA) (HR.out _ HBA.out) (fun m hm => ((hats m hm).below kA).mono (fun _ _ _ => trivial)) (HAT.out _ HBA.out) hbys HKB.out (by omega) HEQ.out)
  obtain ⟨x0, x1, x2, x3, x4, x5, x6, x7, xlt⟩ := (HX8.out.below k9)
  clear hd hown hl64 hats hbys kA k9 HD HX8
  go_wp2_with fail
  refine HW.out.mono ?_; rintro e w10 ⟨rfl, k10⟩
  have HB10 := Lib.hid (HBA.out.trans (k10.mono HBA.out.size))
  clear k10 HW x0 x1 x2 x3 x4 x5 x6 x7 xlt
  go_wp2_with fail
  refine (known17 _ (HT.out _ HB10.out)).mono ?_; rintro e w11 ⟨rfl, k11⟩
  have HB11 := Lib.hid (HB10.out.trans (k11.mono HB10.out.size))
  clear k11
  go_wp2
  go_ret
  exact ⟨rfl, HB11.out⟩
set_option maxRecDepth 100000 in
set_option maxHeartbeats 8000000 in
theorem enc_m_false (k o s m1 c1 m2 c2 : Int) (B O : Nat) (c : Nat) (L : List Mr) (w : World) (ht : Nib w) (hrow : RowAt w (.slice (some ⟨B, O, none⟩) L.length c) L) (hs : ∀ m ∈ L, m.r.val.length ≤ 281474976710656 ∧ m.r.key.length ≤ 281474976710656) (hl : L.length ≤ maxLen) (hat : ∀ m ∈ L, m.At (fun _ => True) w) (hkb : ∀ m ∈ L, isBy m.r.key ∧ isBy m.r.val) (h0 : 0 < L.length) (hok : okW (wdOf k o s m1 c1 m2 c2 L) = false) :
    Calls Tryd.prog 3 #[wdV k o s m1 c1 m2 c2 (.slice (some ⟨B, O, none⟩) L.length c)] w fun e w' => e = .returned (.bool true) ∧ Below w.heap.size w w' := by
  obtain ⟨i0, hi0, hz0, hz1, hz2⟩ := info_parts rec_info
  have hb0 : Below w.heap.size w (w.alloc (.cells (wdC k o s m1 c1 m2 c2 (.slice (some ⟨B, O, none⟩) L.length c)) 26)) := by (repeat' (first | (with_reducible exact Below.refl _ _) | (with_reducible assumption) | (with_reducible refine Below.trans ?_ (Below.mono (by with_reducible assumption) ?_)) | (with_reducible refine Below.alloc ?_ ?_ _) | (with_reducible refine Below.setCell ?_ ?_ _) | (with_reducible refine below_drewN ?_ _) | (with_reducible refine Below.drew ?_) | go_size))
  have HH : Hid (Calls Tryd.prog 12 #[wdV k o s m1 c1 m2 c2 (.slice (some ⟨B, O, none⟩) L.length c)] (w.alloc (.cells (wdC k o s m1 c1 m2 c2 (.slice (some ⟨B, O, none⟩) L.length c)) 26)) fun e w' => (∃ b, e = .returned (.bool b) ∧ (b = false → (L : List Mr).length ≤ 400)) ∧ Below (w.alloc (.cells (wdC k o s m1 c1 m2 c2 (.slice (some ⟨B, O, none⟩) L.length c)) 26)).heap.size (w.alloc (.cells (wdC k o s m1 c1 m2 c2 (.slice (some ⟨B, O, none⟩) L.length c)) 26)) w') := Lib.hid (law_heavy17 k o s m1 c1 m2 c2 (some ⟨B, O, none⟩) c L _ (hrow.below hb0) hs hl)
  have HB0 := Lib.hid hb0
  have X0 := Lib.hid (Wd8.new w 26 k o s m1 c1 m2 c2 (.slice (some ⟨B, O, none⟩) L.length c))
  have HR := Lib.hid (fun (W : World) (q : Below w.heap.size w W) => hrow.below q)
  have HAT := Lib.hid (fun (W : World) (q : Below w.heap.size w W) => fun m hm => (hat m hm).below q)
  have HKB := Lib.hid hkb
  have HT := Lib.hid (fun (W : World) (q : Below w.heap.size w W) => ht.below q)
  have HC : Hid (B < w.heap.size ∧ ∀ j u, (rowM L)[j]? = some u → w.cell? ⟨B, O + j, none⟩ = some u) := Lib.hid (by
    obtain ⟨A', c', he', hc'⟩ := hrow.ex
    obtain ⟨B', O', e, h⟩ := hc' (by omega)
    injection he' with q1 q2 q3
    rw [e] at q1
    injection q1 with q1
    injection q1 with q1 q4
    subst q1 q4
    exact h)
  have HOK := Lib.hid hok
  clear hrow hs hl hb0 hkb ht hok hat
  go_enter Tryd.func3, Tryd.ntmps3
  go_wp2_with fail
  refine HH.out.mono ?_; rintro e w1 ⟨⟨b, rfl, h4⟩, k1⟩
  have HB1 := Lib.hid (HB0.out.trans (k1.mono HB0.out.size))
  have HX1 := Lib.hid (X0.out.below k1)
  have H4 := Lib.hid h4
  clear k1 HH h4 X0 HB0
  cases b
  rotate_left
  · go_wp2
    go_ret
    exact ⟨rfl, HB1.out⟩
  have HL4 : Hid ((L : List Mr).length ≤ 400) := Lib.hid (H4.out (by first | rfl | trivial))
  clear H4
  obtain ⟨x0, x1, x2, x3, x4, x5, x6, x7, xlt⟩ := HX1.out
  have hz1w := HB1.out.size
  have h400 : (L.length : Int) ≤ 400 := by have := HL4.out; omega
  have KX : Below w1.heap.size w1 (w1.alloc (.cells (wdC k o s m1 c1 m2 c2 (.slice (some ⟨B, O, none⟩) L.length c)) 26)) := (Below.refl _ _).alloc (Nat.le_refl _) _
  have hmade : ((w1.alloc (.cells (wdC k o s m1 c1 m2 c2 (.slice (some ⟨B, O, none⟩) L.length c)) 26)).alloc (.cells #[] 89)).ownsRow (w1.heap.size + 1) 89 9 (.slice (some ⟨w1.heap.size + 1, 0, none⟩) 0 0) 0 [] := by
    have h := World.ownsRow_made (base := w1.heap.size + 1) (e := 89) (size := 9) (w1.alloc (.cells (wdC k o s m1 c1 m2 c2 (.slice (some ⟨B, O, none⟩) L.length c)) 26)) #[] 0 (by simp) (Nat.zero_le _) rfl
    rw [show (w1.alloc (.cells (wdC k o s m1 c1 m2 c2 (.slice (some ⟨B, O, none⟩) L.length c)) 26)).heap.size = w1.heap.size + 1 from by simp] at h
    exact h
  have HK3 : Hid (Below w1.heap.size w1 ((w1.alloc (.cells (wdC k o s m1 c1 m2 c2 (.slice (some ⟨B, O, none⟩) L.length c)) 26)).alloc (.cells #[] 89))) := Lib.hid (KX.alloc KX.size _)
  have hsrc : ∀ j u, (rowM L)[j]? = some u → ((w1.alloc (.cells (wdC k o s m1 c1 m2 c2 (.slice (some ⟨B, O, none⟩) L.length c)) 26)).alloc (.cells #[] 89)).cell? ((⟨B, O, none⟩ : Addr).add j) = some u := fun j u hu => by
    rw [at_add]
    exact ((HB1.out.trans (HK3.out.mono hz1w)).cell (p := ⟨B, O + j, none⟩) HC.out.1).trans (HC.out.2 j u hu)
  have HX3 : Hid (XB ((w1.alloc (.cells (wdC k o s m1 c1 m2 c2 (.slice (some ⟨B, O, none⟩) L.length c)) 26)).alloc (.cells #[] 89)) w1.heap.size [.int .i64 k, .int .i64 o, .int .i64 s, .int .i64 m1, .int .i64 c1, .int .i64 m2, .int .i64 c2, .slice (some ⟨B, O, none⟩) L.length c]) := Lib.hid ((XB.new w1 _ _).below ((Below.refl _ _).alloc (Nat.le_refl _) _))
  clear KX
  go_wp2_with (at_builtin; refine wpList_append_lies _ rfl (.tmp 13) (.tmp 15) _ rfl (w1.heap.size + 1) 89 i0 _ 9 96 Tryd.underlying24 hi0 hz0 hz1 hz2 rfl (by decide) (.slice (some ⟨w1.heap.size + 1, 0, none⟩) 0 0) 0 [] rfl hmade ⟨B, O, none⟩ L.length c (rowM L) rfl (rowM_len L) hsrc (rowM_one1 L) (by omega) (by unfold maxLen; omega) (by omega) (by simp) _ rfl ?_; intro g cap w3 hown0 hg2 hat2 hlt2; have HR3 : Hid (w3.ownsRow (w1.heap.size + 1) 89 9 (.slice (some ⟨g, 0, none⟩) L.length cap) L.length (rowM L)) := Lib.hid (by simpa using hown0); have HK4 := Lib.hid (HK3.out.grown hg2 HK3.out.size (fun k hk => by simp [Value.ownBlock] at hk; omega)); have HX4 := Lib.hid (HX3.out.but (S := fun i => i = w1.heap.size + 1) (But.of_grown hg2 (fun k hk => by simp [Value.ownBlock] at hk; omega)) (by omega)); have hX4 := HX4.out; have z0 := hX4.c 0 _ rfl; have z1 := hX4.c 1 _ rfl; have z2 := hX4.c 2 _ rfl; have z3 := hX4.c 3 _ rfl; have z4 := hX4.c 4 _ rfl; have z5 := hX4.c 5 _ rfl; have z6 := hX4.c 6 _ rfl; have z7 := hX4.c 7 _ rfl; have zf := hX4.fz 7; have zlt := hX4.lt; clear hX4 hown0 hg2 hat2 hlt2 hsrc hmade HX3 HK3)
  have hgs := (World.ownsRow.lt HR3.out g rfl).1
  have HXx4 : Hid (XB (w3.setCell ⟨w1.heap.size, 7, none⟩ (.slice (some ⟨g, 0, none⟩) L.length cap)) w1.heap.size [.int .i64 k, .int .i64 o, .int .i64 s, .int .i64 m1, .int .i64 c1, .int .i64 m2, .int .i64 c2, .slice (some ⟨g, 0, none⟩) L.length cap]) := Lib.hid (HX4.out.set 7 (by simp) _)
  have HRx : Hid (RowAt (w3.setCell ⟨w1.heap.size, 7, none⟩ (.slice (some ⟨g, 0, none⟩) L.length cap)) (.slice (some ⟨g, 0, none⟩) L.length cap) L) := Lib.hid (RowAt.of ((But.of_only (S := fun i => i = w1.heap.size) ((Only.refl _ _).setB _) rfl).row HR3.out (fun i hi e => by simp [Value.ownBlock] at hi; omega)))
  have HK5 : Hid (Below w1.heap.size w1 (w3.setCell ⟨w1.heap.size, 7, none⟩ (.slice (some ⟨g, 0, none⟩) L.length cap))) := Lib.hid (HK4.out.setCell (Nat.le_refl _) _)
  clear x0 x1 x2 x3 x4 x5 x6 x7 xlt z0 z1 z2 z3 z4 z5 z6 z7 zlt zf hgs HR3 HX4 HK4 h400
  generalize w3.setCell ⟨w1.heap.size, 7, none⟩ (.slice (some ⟨g, 0, none⟩) L.length cap) = w4 at *
  have HB4 := Lib.hid (HB1.out.trans (HK5.out.mono hz1w))
  have HX4 := Lib.hid (HX1.out.below HK5.out)
  clear HX1 HB1 HK5
  have HE : Hid (Calls Tryd.prog 13 #[wdV k o s m1 c1 m2 c2 (.slice (some ⟨g, 0, none⟩) L.length cap)] w4 fun e w' => e = .returned (.tuple #[.slice none 0 0, .int .i64 1]) ∧ Below w4.heap.size w4 w') := Lib.hid (wd_enc_no k o s m1 c1 m2 c2 (some ⟨g, 0, none⟩) cap L w4 HRx.out (fun m hm => (HKB.out m hm).1) (by have := HL4.out; omega) HOK.out)
  (try go_wp2_with fail)
  refine HE.out.mono ?_; rintro e w5 ⟨rfl, k5⟩
  have HB5 := Lib.hid (HB4.out.trans (k5.mono HB4.out.size))
  have HX5 := Lib.hid (HX4.out.below k5)
  have HXx5 := Lib.hid (HXx4.out.below k5)
  clear HX4 HXx4 HE
  have HRx5 := Lib.hid (HRx.out.below k5)
  clear k5 HRx
  obtain ⟨x0, x1, x2, x3, x4, x5, x6, x7, xlt⟩ := HX5.out
  have HE : Hid (Calls Tryd.prog 14 #[wdV k o s m1 c1 m2 c2 (.slice (some ⟨B, O, none⟩) L.length c)] w5 fun e w' => e = .returned (.tuple #[.slice none 0 0, .int .i64 1]) ∧ Below w5.heap.size w5 w') := Lib.hid (rwd_enc_no k o s m1 c1 m2 c2 (some ⟨B, O, none⟩) c L w5 (HR.out _ HB5.out) (fun m hm => (HKB.out m hm).1) (by have := HL4.out; omega) HOK.out)
  go_wp2_with fail
  refine HE.out.mono ?_; rintro e w6 ⟨rfl, k6⟩
  have HB6 := Lib.hid (HB5.out.trans (k6.mono HB5.out.size))
  have HX6 := Lib.hid (HX5.out.below k6)
  have HXx6 := Lib.hid (HXx5.out.below k6)
  clear HB5 HX5 HXx5 HE
  have HRx6 := Lib.hid (HRx5.out.below k6)
  clear k6 HRx5 x0 x1 x2 x3 x4 x5 x6 x7 xlt
  go_wp2_with fail
  refine (lsame_n none [] 0 0 none [] 0 0 w6 rfl rfl (by omega) (by omega) (ByL.nil _ _) (ByL.nil _ _) rfl).mono ?_; rintro e w7 ⟨rfl, k7⟩
  have HB7 := Lib.hid (HB6.out.trans (k7.mono HB6.out.size))
  have HX7 := Lib.hid (HX6.out.below k7)
  have HXx7 := Lib.hid (HXx6.out.below k7)
  clear HB6 HX6 HXx6 
  have HRx7 := Lib.hid (HRx6.out.below k7)
  clear k7 HRx6
  have HW : Hid (Calls Tryd.prog 16 #[wdV k o s m1 c1 m2 c2 (.slice (some ⟨g, 0, none⟩) L.length cap), wdV k o s m1 c1 m2 c2 (.slice (some ⟨B, O, none⟩) L.length c)] w7 fun e w' => e = .returned (.bool true) ∧ Below w7.heap.size w7 w') := Lib.hid (words_yes k o s m1 c1 m2 c2 k o s m1 c1 m2 c2 (some ⟨g, 0, none⟩) (some ⟨B, O, none⟩) cap c L L w7 HRx7.out (HR.out _ HB7.out) (HAT.out _ HB7.out) (HAT.out _ HB7.out) HKB.out HKB.out (by have := HL4.out; omega) rfl)
  obtain ⟨x0, x1, x2, x3, x4, x5, x6, x7, xlt⟩ := HX7.out
  have z0 := HXx7.out.c 0 _ rfl
  have z1 := HXx7.out.c 1 _ rfl
  have z2 := HXx7.out.c 2 _ rfl
  have z3 := HXx7.out.c 3 _ rfl
  have z4 := HXx7.out.c 4 _ rfl
  have z5 := HXx7.out.c 5 _ rfl
  have z6 := HXx7.out.c 6 _ rfl
  have z7 := HXx7.out.c 7 _ rfl
  have zlt := HXx7.out.lt
  go_wp2_with fail
  refine HW.out.mono ?_; rintro e w8 ⟨rfl, k8⟩
  have HB8 := Lib.hid (HB7.out.trans (k8.mono HB7.out.size))
  have HX8 := Lib.hid (HX7.out.below k8)
  clear k8 HW x0 x1 x2 x3 x4 x5 x6 x7 xlt z0 z1 z2 z3 z4 z5 z6 z7 zlt
  go_wp2_with fail
  refine (known17 _ (HT.out _ HB8.out)).mono ?_; rintro e w9 ⟨rfl, k9⟩
  have HB9 := Lib.hid (HB8.out.trans (k9.mono HB8.out.size))
  clear k9
  go_wp2
  go_ret
  exact ⟨rfl, HB9.out⟩
set_option maxRecDepth 100000 in
set_option maxHeartbeats 8000000 in
theorem enc_m_true (k o s m1 c1 m2 c2 : Int) (B O : Nat) (c : Nat) (L : List Mr) (w : World) (ht : Nib w) (hrow : RowAt w (.slice (some ⟨B, O, none⟩) L.length c) L) (hs : ∀ m ∈ L, m.r.val.length ≤ 281474976710656 ∧ m.r.key.length ≤ 281474976710656) (hl : L.length ≤ maxLen) (hat : ∀ m ∈ L, m.At (fun _ => True) w) (hkb : ∀ m ∈ L, isBy m.r.key ∧ isBy m.r.val) (h0 : 0 < L.length) (hok : okW (wdOf k o s m1 c1 m2 c2 L) = true) :
    Calls Tryd.prog 3 #[wdV k o s m1 c1 m2 c2 (.slice (some ⟨B, O, none⟩) L.length c)] w fun e w' => e = .returned (.bool true) ∧ Below w.heap.size w w' := by
  obtain ⟨i0, hi0, hz0, hz1, hz2⟩ := info_parts rec_info
  have hb0 : Below w.heap.size w (w.alloc (.cells (wdC k o s m1 c1 m2 c2 (.slice (some ⟨B, O, none⟩) L.length c)) 26)) := by (repeat' (first | (with_reducible exact Below.refl _ _) | (with_reducible assumption) | (with_reducible refine Below.trans ?_ (Below.mono (by with_reducible assumption) ?_)) | (with_reducible refine Below.alloc ?_ ?_ _) | (with_reducible refine Below.setCell ?_ ?_ _) | (with_reducible refine below_drewN ?_ _) | (with_reducible refine Below.drew ?_) | go_size))
  have HH : Hid (Calls Tryd.prog 12 #[wdV k o s m1 c1 m2 c2 (.slice (some ⟨B, O, none⟩) L.length c)] (w.alloc (.cells (wdC k o s m1 c1 m2 c2 (.slice (some ⟨B, O, none⟩) L.length c)) 26)) fun e w' => (∃ b, e = .returned (.bool b) ∧ (b = false → (L : List Mr).length ≤ 400)) ∧ Below (w.alloc (.cells (wdC k o s m1 c1 m2 c2 (.slice (some ⟨B, O, none⟩) L.length c)) 26)).heap.size (w.alloc (.cells (wdC k o s m1 c1 m2 c2 (.slice (some ⟨B, O, none⟩) L.length c)) 26)) w') := Lib.hid (law_heavy17 k o s m1 c1 m2 c2 (some ⟨B, O, none⟩) c L _ (hrow.below hb0) hs hl)
  have HB0 := Lib.hid hb0
  have X0 := Lib.hid (Wd8.new w 26 k o s m1 c1 m2 c2 (.slice (some ⟨B, O, none⟩) L.length c))
  have HR := Lib.hid (fun (W : World) (q : Below w.heap.size w W) => hrow.below q)
  have HAT := Lib.hid (fun (W : World) (q : Below w.heap.size w W) => fun m hm => (hat m hm).below q)
  have HKB := Lib.hid hkb
  have HT := Lib.hid (fun (W : World) (q : Below w.heap.size w W) => ht.below q)
  have HC : Hid (B < w.heap.size ∧ ∀ j u, (rowM L)[j]? = some u → w.cell? ⟨B, O + j, none⟩ = some u) := Lib.hid (by
    obtain ⟨A', c', he', hc'⟩ := hrow.ex
    obtain ⟨B', O', e, h⟩ := hc' (by omega)
    injection he' with q1 q2 q3
    rw [e] at q1
    injection q1 with q1
    injection q1 with q1 q4
    subst q1 q4
    exact h)
  have hbk : isBy (encW (wdOf k o s m1 c1 m2 c2 L)) := encW_by (fun r hr => by
    obtain ⟨m, hm, rfl⟩ := List.mem_map.1 hr
    exact hkb m hm)
  have HBD := Lib.hid (encW_bd hok)
  have HFY := Lib.hid (frE_by hbk)
  have HOWN := Lib.hid (wd_dec_own hok hbk)
  have HENC : Hid (∀ (W : World) (g : Nat) (cap : Nat), Nib W → RowAt W (.slice (some ⟨g, 0, none⟩) L.length cap) L → (∀ m ∈ (L : List Mr), m.At (fun _ => True) W) → (L : List Mr).length ≤ 100000 → Calls Tryd.prog 13 #[wdV k o s m1 c1 m2 c2 (.slice (some ⟨g, 0, none⟩) L.length cap)] W fun e w' => (∃ g2 cap2, e = .returned (.tuple #[.slice (some ⟨g2, 0, none⟩) (12 + (encW (wdOf k o s m1 c1 m2 c2 L)).length) cap2, .int .i64 0]) ∧ Row8 W.heap.size w' g2 cap2 (12 + (encW (wdOf k o s m1 c1 m2 c2 L)).length) (frE (encW (wdOf k o s m1 c1 m2 c2 L)))) ∧ Below W.heap.size W w') := Lib.hid (fun W g cap q1 q2 q3 q4 => wd_enc k o s m1 c1 m2 c2 (some ⟨g, 0, none⟩) cap L W q1 q2 q3 hkb q4 hok)
  have HREF : Hid (∀ (W : World), RowAt W (.slice (some ⟨B, O, none⟩) L.length c) L → (∀ m ∈ (L : List Mr), m.At (fun _ => True) W) → (L : List Mr).length ≤ 100000 → Calls Tryd.prog 14 #[wdV k o s m1 c1 m2 c2 (.slice (some ⟨B, O, none⟩) L.length c)] W fun e w' => (∃ g2 cap2, e = .returned (.tuple #[.slice (some ⟨g2, 0, none⟩) (12 + (encW (wdOf k o s m1 c1 m2 c2 L)).length) cap2, .int .i64 0]) ∧ Row8 W.heap.size w' g2 cap2 (12 + (encW (wdOf k o s m1 c1 m2 c2 L)).length) (frE (encW (wdOf k o s m1 c1 m2 c2 L)))) ∧ Below W.heap.size W w') := Lib.hid (fun W q2 q3 q4 => rwd_enc k o s m1 c1 m2 c2 (some ⟨B, O, none⟩) c L W q2 q3 hkb q4 hok)
  generalize encW (wdOf k o s m1 c1 m2 c2 L) = E at *
  obtain ⟨n, hn⟩ : ∃ n, 12 + E.length = n := ⟨_, rfl⟩
  have HN : Hid (0 < n ∧ n ≤ 1000000) := Lib.hid (by have := HBD.out; omega)
  rw [hn] at HENC HREF
  clear hn hbk
  have HOK := Lib.hid hok
  clear hrow hs hl hb0 hkb ht hok hat
  go_enter Tryd.func3, Tryd.ntmps3
  go_wp2_with fail
  refine HH.out.mono ?_; rintro e w1 ⟨⟨b, rfl, h4⟩, k1⟩
  have HB1 := Lib.hid (HB0.out.trans (k1.mono HB0.out.size))
  have HX1 := Lib.hid (X0.out.below k1)
  have H4 := Lib.hid h4
  clear k1 HH h4 X0 HB0
  cases b
  rotate_left
  · go_wp2
    go_ret
    exact ⟨rfl, HB1.out⟩
  have HL4 : Hid ((L : List Mr).length ≤ 400) := Lib.hid (H4.out (by first | rfl | trivial))
  clear H4
  obtain ⟨x0, x1, x2, x3, x4, x5, x6, x7, xlt⟩ := HX1.out
  have hz1w := HB1.out.size
  have h400 : (L.length : Int) ≤ 400 := by have := HL4.out; omega
  have KX : Below w1.heap.size w1 (w1.alloc (.cells (wdC k o s m1 c1 m2 c2 (.slice (some ⟨B, O, none⟩) L.length c)) 26)) := (Below.refl _ _).alloc (Nat.le_refl _) _
  have hmade : ((w1.alloc (.cells (wdC k o s m1 c1 m2 c2 (.slice (some ⟨B, O, none⟩) L.length c)) 26)).alloc (.cells #[] 89)).ownsRow (w1.heap.size + 1) 89 9 (.slice (some ⟨w1.heap.size + 1, 0, none⟩) 0 0) 0 [] := by
    have h := World.ownsRow_made (base := w1.heap.size + 1) (e := 89) (size := 9) (w1.alloc (.cells (wdC k o s m1 c1 m2 c2 (.slice (some ⟨B, O, none⟩) L.length c)) 26)) #[] 0 (by simp) (Nat.zero_le _) rfl
    rw [show (w1.alloc (.cells (wdC k o s m1 c1 m2 c2 (.slice (some ⟨B, O, none⟩) L.length c)) 26)).heap.size = w1.heap.size + 1 from by simp] at h
    exact h
  have HK3 : Hid (Below w1.heap.size w1 ((w1.alloc (.cells (wdC k o s m1 c1 m2 c2 (.slice (some ⟨B, O, none⟩) L.length c)) 26)).alloc (.cells #[] 89))) := Lib.hid (KX.alloc KX.size _)
  have hsrc : ∀ j u, (rowM L)[j]? = some u → ((w1.alloc (.cells (wdC k o s m1 c1 m2 c2 (.slice (some ⟨B, O, none⟩) L.length c)) 26)).alloc (.cells #[] 89)).cell? ((⟨B, O, none⟩ : Addr).add j) = some u := fun j u hu => by
    rw [at_add]
    exact ((HB1.out.trans (HK3.out.mono hz1w)).cell (p := ⟨B, O + j, none⟩) HC.out.1).trans (HC.out.2 j u hu)
  have HX3 : Hid (XB ((w1.alloc (.cells (wdC k o s m1 c1 m2 c2 (.slice (some ⟨B, O, none⟩) L.length c)) 26)).alloc (.cells #[] 89)) w1.heap.size [.int .i64 k, .int .i64 o, .int .i64 s, .int .i64 m1, .int .i64 c1, .int .i64 m2, .int .i64 c2, .slice (some ⟨B, O, none⟩) L.length c]) := Lib.hid ((XB.new w1 _ _).below ((Below.refl _ _).alloc (Nat.le_refl _) _))
  clear KX
  go_wp2_with (at_builtin; refine wpList_append_lies _ rfl (.tmp 13) (.tmp 15) _ rfl (w1.heap.size + 1) 89 i0 _ 9 96 Tryd.underlying24 hi0 hz0 hz1 hz2 rfl (by decide) (.slice (some ⟨w1.heap.size + 1, 0, none⟩) 0 0) 0 [] rfl hmade ⟨B, O, none⟩ L.length c (rowM L) rfl (rowM_len L) hsrc (rowM_one1 L) (by omega) (by unfold maxLen; omega) (by omega) (by simp) _ rfl ?_; intro g cap w3 hown0 hg2 hat2 hlt2; have HR3 : Hid (w3.ownsRow (w1.heap.size + 1) 89 9 (.slice (some ⟨g, 0, none⟩) L.length cap) L.length (rowM L)) := Lib.hid (by simpa using hown0); have HK4 := Lib.hid (HK3.out.grown hg2 HK3.out.size (fun k hk => by simp [Value.ownBlock] at hk; omega)); have HX4 := Lib.hid (HX3.out.but (S := fun i => i = w1.heap.size + 1) (But.of_grown hg2 (fun k hk => by simp [Value.ownBlock] at hk; omega)) (by omega)); have hX4 := HX4.out; have z0 := hX4.c 0 _ rfl; have z1 := hX4.c 1 _ rfl; have z2 := hX4.c 2 _ rfl; have z3 := hX4.c 3 _ rfl; have z4 := hX4.c 4 _ rfl; have z5 := hX4.c 5 _ rfl; have z6 := hX4.c 6 _ rfl; have z7 := hX4.c 7 _ rfl; have zf := hX4.fz 7; have zlt := hX4.lt; clear hX4 hown0 hg2 hat2 hlt2 hsrc hmade HX3 HK3)
  have hgs := (World.ownsRow.lt HR3.out g rfl).1
  have HXx4 : Hid (XB (w3.setCell ⟨w1.heap.size, 7, none⟩ (.slice (some ⟨g, 0, none⟩) L.length cap)) w1.heap.size [.int .i64 k, .int .i64 o, .int .i64 s, .int .i64 m1, .int .i64 c1, .int .i64 m2, .int .i64 c2, .slice (some ⟨g, 0, none⟩) L.length cap]) := Lib.hid (HX4.out.set 7 (by simp) _)
  have HRx : Hid (RowAt (w3.setCell ⟨w1.heap.size, 7, none⟩ (.slice (some ⟨g, 0, none⟩) L.length cap)) (.slice (some ⟨g, 0, none⟩) L.length cap) L) := Lib.hid (RowAt.of ((But.of_only (S := fun i => i = w1.heap.size) ((Only.refl _ _).setB _) rfl).row HR3.out (fun i hi e => by simp [Value.ownBlock] at hi; omega)))
  have HK5 : Hid (Below w1.heap.size w1 (w3.setCell ⟨w1.heap.size, 7, none⟩ (.slice (some ⟨g, 0, none⟩) L.length cap))) := Lib.hid (HK4.out.setCell (Nat.le_refl _) _)
  clear x0 x1 x2 x3 x4 x5 x6 x7 xlt z0 z1 z2 z3 z4 z5 z6 z7 zlt zf hgs HR3 HX4 HK4 h400
  generalize w3.setCell ⟨w1.heap.size, 7, none⟩ (.slice (some ⟨g, 0, none⟩) L.length cap) = w4 at *
  have HB4 := Lib.hid (HB1.out.trans (HK5.out.mono hz1w))
  have HX4 := Lib.hid (HX1.out.below HK5.out)
  clear HX1 HB1 HK5
  have HE := Lib.hid (HENC.out w4 g cap (HT.out _ HB4.out) HRx.out (HAT.out _ HB4.out) (by have := HL4.out; omega))
  (try go_wp2_with fail)
  refine HE.out.mono ?_; rintro e w5 ⟨⟨g5, cap5, rfl, hr5⟩, k5⟩
  have HB5 := Lib.hid (HB4.out.trans (k5.mono HB4.out.size))
  have HX5 := Lib.hid (HX4.out.below k5)
  have HXx5 := Lib.hid (HXx4.out.below k5)
  clear HB4 HX4 HXx4 HE
  have HRx5 := Lib.hid (HRx.out.below k5)
  have HA5 := Lib.hid hr5
  clear k5 HRx hr5 HENC
  obtain ⟨x0, x1, x2, x3, x4, x5, x6, x7, xlt⟩ := HX5.out
  have HE := Lib.hid (HREF.out w5 (HR.out _ HB5.out) (HAT.out _ HB5.out) (by have := HL4.out; omega))
  go_wp2_with fail
  refine HE.out.mono ?_; rintro e w6 ⟨⟨g6, cap6, rfl, hr6⟩, k6⟩
  have HB6 := Lib.hid (HB5.out.trans (k6.mono HB5.out.size))
  have HX6 := Lib.hid (HX5.out.below k6)
  have HXx6 := Lib.hid (HXx5.out.below k6)
  clear HB5 HX5 HXx5 HE
  have HRx6 := Lib.hid (HRx5.out.below k6)
  have HA6 := Lib.hid (HA5.out.below k6)
  have HS := Lib.hid (lsame_n (some ⟨g5, 0, none⟩) (frE E) n cap5 (some ⟨g6, 0, none⟩) (frE E) n cap6 w6 HA6.out.len hr6.len HN.out.2 HN.out.2 HA6.out.by_ hr6.by_ rfl)
  clear k6 HRx5 hr6 HREF HA5 x0 x1 x2 x3 x4 x5 x6 x7 xlt
  go_wp2_with fail
  refine HS.out.mono ?_; rintro e w7 ⟨rfl, k7⟩
  have HB7 := Lib.hid (HB6.out.trans (k7.mono HB6.out.size))
  have HX7 := Lib.hid (HX6.out.below k7)
  have HXx7 := Lib.hid (HXx6.out.below k7)
  clear HB6 HX6 HXx6 HS
  have HRx7 := Lib.hid (HRx6.out.below k7)
  have HA7 := Lib.hid (HA6.out.below k7)
  clear k7 HRx6 HA6
  have HW : Hid (Calls Tryd.prog 16 #[wdV k o s m1 c1 m2 c2 (.slice (some ⟨g, 0, none⟩) L.length cap), wdV k o s m1 c1 m2 c2 (.slice (some ⟨B, O, none⟩) L.length c)] w7 fun e w' => e = .returned (.bool true) ∧ Below w7.heap.size w7 w') := Lib.hid (words_yes k o s m1 c1 m2 c2 k o s m1 c1 m2 c2 (some ⟨g, 0, none⟩) (some ⟨B, O, none⟩) cap c L L w7 HRx7.out (HR.out _ HB7.out) (HAT.out _ HB7.out) (HAT.out _ HB7.out) HKB.out HKB.out (by have := HL4.out; omega) rfl)
  obtain ⟨x0, x1, x2, x3, x4, x5, x6, x7, xlt⟩ := HX7.out
  have z0 := HXx7.out.c 0 _ rfl
  have z1 := HXx7.out.c 1 _ rfl
  have z2 := HXx7.out.c 2 _ rfl
  have z3 := HXx7.out.c 3 _ rfl
  have z4 := HXx7.out.c 4 _ rfl
  have z5 := HXx7.out.c 5 _ rfl
  have z6 := HXx7.out.c 6 _ rfl
  have z7 := HXx7.out.c 7 _ rfl
  have zlt := HXx7.out.lt
  go_wp2_with fail
  refine HW.out.mono ?_; rintro e w8 ⟨rfl, k8⟩
  have HB8 := Lib.hid (HB7.out.trans (k8.mono HB7.out.size))
  have HX8 := Lib.hid (HX7.out.below k8)
  have HA8 := HA7.out.below k8
  have HD := Lib.hid (wd_dec_n (some ⟨g5, 0, none⟩) (frE E) n cap5 w8 HA8.len (HT.out _ HB8.out) HA8.by_ HFY.out HN.out.2 HA8.cap_le.1 HA8.cap_le.2 HOWN.out.1 HOWN.out.2.1)
  clear HA8 k8 HW x0 x1 x2 x3 x4 x5 x6 x7 xlt z0 z1 z2 z3 z4 z5 z6 z7 zlt
  go_wp2_with fail
  refine HD.out.mono ?_; rintro e w9 ⟨hres, k9⟩
  rcases hres with ⟨hno, _⟩ | ⟨k', o', s', m1', c1', m2', c2', L', A', c', hd, rfl, hown, hl64, hats, hbys⟩
  · have := HOWN.out.2.2
    rw [hno] at this
    cases this
  have HEQ : Hid (wdOf k' o' s' m1' c1' m2' c2' L' = (wdOf k o s m1 c1 m2 c2 L)) := Lib.hid (Option.some.inj (hd.symm.trans HOWN.out.2.2))
  have kA : Below w9.heap.size w9 (w9.alloc (.cells (wdC k' o' s' m1' c1' m2' c2' (.slice A' L'.length c')) 26)) := (Below.refl _ _).alloc (Nat.le_refl _) _
  have HB9 := Lib.hid (HB8.out.trans (k9.mono HB8.out.size))
  have HBA := Lib.hid (HB9.out.trans (kA.mono HB9.out.size))
  have HW : Hid (Calls Tryd.prog 16 #[wdV k' o' s' m1' c1' m2' c2' (.slice A' L'.length c'), wdV k o s m1 c1 m2 c2 (.slice (some ⟨B, O, none⟩) L.length c)] (w9.alloc (.cells (wdC k' o' s' m1' c1' m2' c2' (.slice A' L'.length c')) 26)) fun e w' => e = .returned (.bool true) ∧ Below (w9.alloc (.cells (wdC k' o' s' m1' c1' m2' c2' (.slice A' L'.length c')) 26)).heap.size (w9.alloc (.cells (wdC k' o' s' m1' c1' m2' c2' (.slice A' L'.length c')) 26)) w') := Lib.hid (words_yes k' o' s' m1' c1' m2' c2' k o s m1 c1 m2 c2 A' (some ⟨B, O, none⟩) c' c L' L _ ((RowAt.of hown).below kA) (HR.out _ HBA.out) (fun m hm => ((hats m hm).below kA).mono (fun _ _ _ => trivial)) (HAT.out _ HBA.out) hbys HKB.out (by omega) HEQ.out)
  obtain ⟨x0, x1, x2, x3, x4, x5, x6, x7, xlt⟩ := (HX8.out.below k9)
  clear hd hown hl64 hats hbys kA k9 HD HX8
  go_wp2_with fail
  refine HW.out.mono ?_; rintro e w10 ⟨rfl, k10⟩
  have HB10 := Lib.hid (HBA.out.trans (k10.mono HBA.out.size))
  clear k10 HW x0 x1 x2 x3 x4 x5 x6 x7 xlt
  go_wp2_with fail
  refine (known17 _ (HT.out _ HB10.out)).mono ?_; rintro e w11 ⟨rfl, k11⟩
  have HB11 := Lib.hid (HB10.out.trans (k11.mono HB10.out.size))
  clear k11
  go_wp2
  go_ret
  exact ⟨rfl, HB11.out⟩
end Go.Proofs.YtdffldlcbihjmaaDoor
namespace Go.Proofs.YtdffldlcbihjmaaDoor
open Go.ChangeShapes Go.WideShapes Go.ChangeAt Go.RowKit Go.Joins Go.Deep
set_option maxRecDepth 100000 in
theorem wireEncodes_contract (H : Type) (enc : TypeId × Value → H) (W : World) (base : Nat) (args : Array Value) (ds gs : List (DataW H)) (before : List MemPlace)
    (hval0 : ∀ (j : Nat) t v, Tryd.f3.params[j]? = some t → args[j]? = some v → Value.okWide Tryd.prog W .any base t v)
    (hW : DataW.Whole enc Tryd.prog Tryd.f3.params.toList Rows.wireEncodesSpec.vars false W args.toList ds gs before)
    (hsz0 : (DataW.weightsEach Tryd.prog (Tryd.f3.params.toList ++ (OpenSpec.ofChange Rows.wireEncodesSpec).bare.plain.varTypes Tryd.prog) (ds ++ gs)).all (· ≤ reachBytes) = true) (hL : laidMetH Tryd.prog Rows.wireEncodesRow.laid W) (hS : W.ShapedOpen Tryd.prog) :
    Calls Tryd.prog 3 args W fun e W' => ∃ v, e = .returned v ∧ Rows.wireEncodesSpec.post enc Tryd.prog Tryd.f3 false true false false W args v W' := by
  have hval : ∀ (j : Nat) t v, Tryd.f3.params[j]? = some t → args[j]? = some v → Value.okWide Tryd.prog W .any base t v := hval0
  have hsz := hsz0
  have hW' := hW
  obtain ⟨p, q, hA0, hV, rfl, hfz, hnd⟩ := hW
  have hA : DataW.TrodAll enc Tryd.prog W 0 (fun _ => true) true Tryd.f3.params.toList args.toList ds p := hA0
  rw [Tryd.params3] at hA hval hsz
  have hsame : (Rows.wireEncodesSpec.fn H (ds ++ gs)).results = [.lit (.bool true)] ∧ (Rows.wireEncodesSpec.fn H (ds ++ gs)).args = ds ∧ (Rows.wireEncodesSpec.fn H (ds ++ gs)).vars = [] → ∀ W', Below W.heap.size W W' → Rows.wireEncodesSpec.post enc Tryd.prog Tryd.f3 false true false false W args (.bool true) W' :=
    fun h W' hb => law_post (tb := 4) hW' law_laid (by kernel_rfl) rfl Tryd.underlying4 h.1 h.2.1 rfl h.2.2 hb
  obtain ⟨v0, vs0, d0, ds0, p0, q0, hargs, rfl, rfl, h0, r0⟩ := trodAll_cons hA
  obtain ⟨rfl, rfl, rfl⟩ := trodAll_nil r0
  obtain rfl : args = #[v0] := by cases args; simp_all
  obtain ⟨rfl, rfl⟩ := trodVars_none hV
  have hpost := hsame ⟨rfl, rfl, rfl⟩
  clear hsame hA0 hval0 hsz0
  obtain ⟨k, o, s, m1, c1, m2, c2, L, A, c, rfl, hmx, hrow, hin, hz⟩ := open_word (hval 0 26 v0 rfl rfl) h0
  have hk := hz reachBytes (sized_each (j := 0) hsz rfl rfl)
  unfold reachBytes at hk
  have ht : Nib W := nib_of_laid hL
  have hs : ∀ m ∈ L, m.r.val.length ≤ 281474976710656 ∧ m.r.key.length ≤ 281474976710656 := fun m hm => ⟨by have := (hk m hm).1; omega, by have := (hk m hm).2; omega⟩
  have hkb : ∀ m ∈ L, isBy m.r.key ∧ isBy m.r.val := fun m hm => ⟨(hin m hm).key, (hin m hm).val⟩
  have hat : ∀ m ∈ L, m.At (fun _ => True) W := fun m hm => (hin m hm).at_
  by_cases hn0 : 0 < L.length
  · obtain ⟨A', c', he', hc'⟩ := hrow.ex
    obtain ⟨rfl, rfl⟩ : A = A' ∧ c = c' := by injection he' with q1 q2 q3; exact ⟨q1, q3⟩
    obtain ⟨B, O, rfl, _⟩ := hc' hn0
    cases hOK : okW (wdOf k o s m1 c1 m2 c2 L)
    · exact (enc_m_false k o s m1 c1 m2 c2 B O c L W ht hrow hs hmx hat hkb hn0 hOK).mono fun e W' ⟨he, hb⟩ => ⟨_, he, hpost W' hb⟩
    · exact (enc_m_true k o s m1 c1 m2 c2 B O c L W ht hrow hs hmx hat hkb hn0 hOK).mono fun e W' ⟨he, hb⟩ => ⟨_, he, hpost W' hb⟩
  · obtain rfl : L = [] := List.length_eq_zero_iff.1 (by omega)
    cases hOK : okW (wdOf k o s m1 c1 m2 c2 [])
    · cases A with
      | none => exact (enc_n_false k o s m1 c1 m2 c2 c W ht hrow hOK).mono fun e W' ⟨he, hb⟩ => ⟨_, he, hpost W' hb⟩
      | some ad => exact (enc_s_false k o s m1 c1 m2 c2 ad c W ht hrow hOK).mono fun e W' ⟨he, hb⟩ => ⟨_, he, hpost W' hb⟩
    · cases A with
      | none => exact (enc_n_true k o s m1 c1 m2 c2 c W ht hrow hOK).mono fun e W' ⟨he, hb⟩ => ⟨_, he, hpost W' hb⟩
      | some ad => exact (enc_s_true k o s m1 c1 m2 c2 ad c W ht hrow hOK).mono fun e W' ⟨he, hb⟩ => ⟨_, he, hpost W' hb⟩
theorem wireEncodes_reads (os : Os) {H : Type} (enc : TypeId × Value → H) : (DataW.whole enc Tryd.prog ((layW1 os).forCall (fun _ _ => 0) ⟨#[], #[wdV 0 0 0 0 0 0 0 (.slice none 0 0)], []⟩).memory Tryd.f3.params.toList Rows.wireEncodesSpec.vars false #[wdV 0 0 0 0 0 0 0 (.slice none 0 0)].toList 8).isSome = true := by kernel_rfl
theorem wireEncodes_met (os : Os) : laidMet Tryd.prog Rows.wireEncodesRow.laid ((layW1 os).forCall (fun _ _ => 0) ⟨#[], #[wdV 0 0 0 0 0 0 0 (.slice none 0 0)], []⟩).memory := laidMet_of_run' 8 (by kernel_rfl) (by kernel_rfl)
set_option maxRecDepth 100000 in
theorem wireEncodes_lifted (os : Os) (started : os.Started) (H : Type) (enc : TypeId × Value → H) (F : Stop.Interp) :
    ReturnsInHanded {} Tryd.checked os 3 .any ((OpenSpec.ofChange Rows.wireEncodesSpec).preRow enc Tryd.prog Tryd.f3 Rows.wireEncodesRow.domain false Rows.wireEncodesRow.laid) (((OpenSpec.ofChange Rows.wireEncodesSpec).at F).post enc Tryd.prog Tryd.f3 false true false false) := by
  obtain ⟨x, hx⟩ := Option.isSome_iff_exists.1 (wireEncodes_reads os enc)
  refine returnsInHanded_of_row (C := Tryd.checked) (s := OpenSpec.ofChange Rows.wireEncodesSpec) law_own started (by kernel_rfl) Tryd.func3
    (witness_row_at (enc := enc) (C := Tryd.checked) false (layW1 os) #[wdV 0 0 0 0 0 0 0 (.slice none 0 0)] rfl (by kernel_rfl) (by kernel_rfl) (by kernel_rfl)
      (OpenSpec.preRow_of_cond 8 hx (by rfl) (fun k hk => by cases hk) (by kernel_rfl) (wireEncodes_met os))) ?_
  intro W base args ds gs before hval hW _ _ hsz hL hS _
  exact wireEncodes_contract H enc W base args ds gs before hval hW hsz hL hS
theorem wireEncodes_said : Rows.WireEncodesSaid :=
  OpenClaim.holds_of_cond 3 Tryd.f3 rfl rfl rfl rfl rfl rfl rfl ⟨rfl, rfl, rfl, rfl, rfl⟩ rfl rfl rfl rfl rfl (by kernel_rfl) Tryd.func3 (by kernel_rfl)
    (of_decide_eq_true (by kernel_rfl)) (by unfold Func.isWrapper; first | (rw [if_pos (by decide +kernel)]; kernel_rfl) | (rw [if_neg (by decide +kernel)]; exact ⟨rfl, rfl⟩))
    (fun os started H enc _ F => by rw [OpenClaim.pre_eq_preRow]; exact wireEncodes_lifted os started H enc F)
theorem wireEncodes_holds : Rows.WireEncodesCardSaid :=
  Claim7.holds_tied_plain_at .later [] _ _ _ _ wireEncodes_said (fun _ h => by cases h) (by kernel_rfl) (fun _ h => by cases h) wireEncodes_row_tie rfl ⟨rfl, rfl⟩ (by kernel_rfl) rfl (plain_of (f0 := 3) (fn0 := Tryd.f3) (by kernel_rfl) Tryd.func3 (by kernel_rfl) (by kernel_rfl)) (by kernel_rfl)
end Go.Proofs.YtdffldlcbihjmaaDoor

