/- The reference's List (written by gen/reflist.py). -/
import Derived.Test.YtdffldlcbihjmaaDoorRecList
import Derived.Test.YtdffldlcbihjmaaDoorRefEnc
set_option linter.unusedSimpArgs false
set_option linter.unusedVariables false
namespace Go.Proofs.YtdffldlcbihjmaaDoor
open Go.RowKit

/-- The row, and what was laid of the list. -/
structure GL (w wr : World) (v : Value) (rs : List Rc) (k : Nat) : Prop where
  g : G8 w wr v (encN rs.length ++ bodyE (rs.take k))
  ok : ∀ r ∈ rs.take k, okR r = true
theorem GL.len {w wr : World} {v : Value} {rs : List Rc} {k : Nat} (h : GL w wr v rs k) (hl : rs.length ≤ 64) : (encN rs.length ++ bodyE (rs.take k)).length ≤ 80000 := by
  have h1 := bodyE_len (rs.take k) (fun r hr => (ok_iff r).1 (h.ok r hr))
  have h2 := enc2_len (n := rs.length) (by omega)
  rw [List.length_take] at h1
  rw [List.length_append]
  have : min k rs.length * 1202 ≤ 64 * 1202 := Nat.mul_le_mul_right _ (by omega)
  omega
set_option maxRecDepth 100000 in
set_option maxHeartbeats 4000000 in
theorem ref_list (v : Value) (L : List Mr) (w : World) (h : RowAt w v L) (hat : ∀ m ∈ L, m.At (fun _ => True) w) (hky : ∀ m ∈ L, isBy m.r.key) (hl : L.length ≤ 100000) :
    Calls Tryd.prog 55 #[v] w fun e w' => LsRes (L.map Mr.r) w' e ∧ Below w.heap.size w w' := by
  obtain ⟨i0, hi0, hz0, hz1, hz2⟩ := info_parts u8_info
  obtain ⟨A, c, rfl, hc⟩ := h.ex
  have hni : (L.length : Int) ≤ 100000 := by omega
  have HC := Lib.hid hc
  have HA := Lib.hid (And.intro hat hky)
  clear h hc hat hky
  by_cases h64 : 64 < L.length
  · have t1 : decide ((64 : Int) < (L.length : Int)) = true := by simp; omega
    have HE := Lib.hid (ls_long (L := L.map Mr.r) (by simpa using h64))
    clear h64
    go_enter Tryd.func55, Tryd.ntmps55
    go_wp2
    go_ret2
    exact ⟨lsRes_none _ HE.out, Below.refl _ _⟩
  have t1 : decide ((64 : Int) < (L.length : Int)) = false := by simp; omega
  have H64 := Lib.hid h64
  have HN := Lib.hid (ref_num (L.length : Int) w (by omega) (by omega))
  clear h64
  go_enter Tryd.func55, Tryd.ntmps55
  go_wp2_with fail
  refine HN.out.mono ?_; rintro e W2 ⟨⟨g0, cp0, rfl, hown0⟩, k2⟩
  have HS : Hid (GL w W2 (.slice (some ⟨g0, 0, none⟩) (encN (L.length : Int).toNat).length cp0) (L.map Mr.r) 0) := Lib.hid ⟨⟨by simpa [bodyE] using hown0, k2⟩, fun r hr => by simp at hr⟩
  clear hown0 k2 HN
  go_wp2
  go_loopw [4, 5] (fun u i wr => ∃ (k : Nat), k ≤ L.length ∧ i = .int .i64 k ∧ GL w wr u (L.map Mr.r) k) (fun _ i _ => L.length - (intOf i).toNat)
  case atStart => exact ⟨0, Nat.zero_le _, rfl, by simpa using HS.out⟩
  case round =>
    obtain ⟨k, hk, rfl, hW⟩ := hrel
    clear HS
    obtain ⟨Av, cv, hus, hyv, hav, hcl⟩ := hW.g.row.bytes
    have HHL : Hid ((encN (L.map Mr.r).length ++ bodyE ((L.map Mr.r).take k)).length ≤ 80000) := Lib.hid (hW.len (by have := H64.out; simp; omega))
    have HG := Lib.hid hW.g
    have HKK := Lib.hid hW.ok
    clear hW
    obtain ⟨P0, hP0⟩ : ∃ P0, encN (L.map Mr.r).length ++ bodyE ((L.map Mr.r).take k) = P0 := ⟨_, rfl⟩
    have HP0 := Lib.hid hP0
    rw [hP0] at hus hyv hcl HHL HG
    clear hP0
    subst hus
    have hvm : cv ≤ maxLen := by
      rcases HG.out.row.2 with ⟨h, _⟩ | ⟨g', cap', cur, h, _, _, _, h2, _⟩
      · injection h with _ _ h3; unfold maxLen; omega
      · injection h with _ _ h3; omega
    have hcl' := hcl
    have HCV := Lib.hid (And.intro hcl (And.intro hvm hyv))
    clear hcl hyv hav hvm hcl'
    by_cases hlt : k < L.length
    · have lk : (k : Int) < (L.length : Int) := by omega
      have hi1 : ((k : Int).toNat) = k := by simp
      obtain ⟨B, O, rfl, hBl, hcell⟩ := HC.out (by omega)
      have hx : L[k]? = some L[k] := List.getElem?_eq_getElem hlt
      have hm := HA.out.1 L[k] (List.getElem_mem hlt)
      have hkb := HA.out.2 L[k] (List.getElem_mem hlt)
      have hmr : L[k].r ∈ L.map Mr.r := List.mem_map_of_mem (List.getElem_mem hlt)
      have htk : (L.map Mr.r).take (k + 1) = (L.map Mr.r).take k ++ [L[k].r] := by rw [List.take_succ_eq_append_getElem (by simpa using hlt)]; simp
      generalize L[k] = x at *
      have hB := HG.out.hb
      have a0 : wr.cell? ⟨B, O + k * 9, none⟩ = some (.int .i64 x.r.o) := (hB.cell (p := ⟨B, O + k * 9, none⟩) hBl).trans (hcell (k * 9) _ (by have := rowM_at hx 0 (by omega); rwa [Nat.add_zero] at this))
      have a1 : wr.cell? ⟨B, O + k * 9 + 1, none⟩ = some (.int .i64 x.r.s) := by rw [Nat.add_assoc]; exact (hB.cell (p := ⟨B, O + (k * 9 + 1), none⟩) hBl).trans (hcell _ _ (rowM_at hx 1 (by omega)))
      have a2 : wr.cell? ⟨B, O + k * 9 + 2, none⟩ = some (.string (strB x.r.key)) := by rw [Nat.add_assoc]; exact (hB.cell (p := ⟨B, O + (k * 9 + 2), none⟩) hBl).trans (hcell _ _ (rowM_at hx 2 (by omega)))
      have a3 : wr.cell? ⟨B, O + k * 9 + 3, none⟩ = some (.int .i64 x.r.ml) := by rw [Nat.add_assoc]; exact (hB.cell (p := ⟨B, O + (k * 9 + 3), none⟩) hBl).trans (hcell _ _ (rowM_at hx 3 (by omega)))
      have a4 : wr.cell? ⟨B, O + k * 9 + 4, none⟩ = some (.int .i64 x.r.ct) := by rw [Nat.add_assoc]; exact (hB.cell (p := ⟨B, O + (k * 9 + 4), none⟩) hBl).trans (hcell _ _ (rowM_at hx 4 (by omega)))
      have a5 : wr.cell? ⟨B, O + k * 9 + 5, none⟩ = some (.int .i64 x.r.vo) := by rw [Nat.add_assoc]; exact (hB.cell (p := ⟨B, O + (k * 9 + 5), none⟩) hBl).trans (hcell _ _ (rowM_at hx 5 (by omega)))
      have a6 : wr.cell? ⟨B, O + k * 9 + 6, none⟩ = some (.slice x.A x.r.val.length x.c) := by rw [Nat.add_assoc]; exact (hB.cell (p := ⟨B, O + (k * 9 + 6), none⟩) hBl).trans (hcell _ _ (rowM_at hx 6 (by omega)))
      have a7 : wr.cell? ⟨B, O + k * 9 + 7, none⟩ = some (.bool x.r.gone) := by rw [Nat.add_assoc]; exact (hB.cell (p := ⟨B, O + (k * 9 + 7), none⟩) hBl).trans (hcell _ _ (rowM_at hx 7 (by omega)))
      have a8 : wr.cell? ⟨B, O + k * 9 + 8, none⟩ = some (.int .i64 x.r.tt) := by rw [Nat.add_assoc]; exact (hB.cell (p := ⟨B, O + (k * 9 + 8), none⟩) hBl).trans (hcell _ _ (rowM_at hx 8 (by omega)))
      have hKs : kL (strB x.r.key) = x.r.key := kL_str hkb
      have HOK : Hid (okR x.r = okN x.r.o x.r.s (strB x.r.key).size x.r.ml x.r.ct x.r.vo x.r.val.length x.r.gone x.r.tt) := Lib.hid (by rw [okR_n, strB_size])
      have HM : Hid (ByL wr x.A x.r.val ∧ (x.A = none → x.r.val.length = 0)) := Lib.hid ⟨hm.b.below hB, hm.n⟩
      have HKS := Lib.hid (And.intro hKs (And.intro hmr htk))
      have HB := Lib.hid hB
      clear hm hkb hcell hx hB hKs hmr htk
      cases hok : okR x.r
      · have HE := Lib.hid (ls_bad (L := L.map Mr.r) (by simpa using H64.out) HKS.out.2.1 hok)
        have HN := Lib.hid (ref_enc_no x.r.o x.r.s (strB x.r.key) x.r.ml x.r.ct x.r.vo x.A x.r.val.length x.c x.r.gone x.r.tt wr (by rw [← HOK.out]; exact hok))
        clear hok HM HKS HG HKK
        go_wp2_with fail
        refine HN.out.mono ?_; rintro e W3 ⟨rfl, k3⟩
        have HB3 := Lib.hid (HB.out.trans (k3.mono HB.out.size))
        clear k3 HN a0 a1 a2 a3 a4 a5 a6 a7 a8
        go_wp2
        go_ret2
        exact ⟨lsRes_none _ HE.out, HB3.out⟩
      · have HN := Lib.hid (ref_enc_yes x.r.o x.r.s (strB x.r.key) x.r.ml x.r.ct x.r.vo x.A x.r.val x.c x.r.gone x.r.tt wr (by rw [← HOK.out]; exact hok) HM.out.1 HM.out.2)
        rw [HKS.out.1] at HN
        have HEL : Hid ((encR x.r).length ≤ 1200) := Lib.hid (encR_len _ ((ok_iff _).1 hok))
        have HOKR := Lib.hid hok
        clear hok
        go_wp2_with fail
        refine HN.out.mono ?_; rintro e W3 ⟨g, cap, rfl, hown, k3⟩
        change Own8 _ W3 (.slice (some ⟨g, 0, none⟩) (encR x.r).length cap) (encR x.r) at hown
        obtain ⟨A1, c1, e1, y1, b1, l1⟩ := Own8.bytes hown
        obtain ⟨rfl, rfl⟩ : some (⟨g, 0, none⟩ : Addr) = A1 ∧ cap = c1 := by injection e1 with q1 q2 q3; exact ⟨q1, q3⟩
        have HG3 := Lib.hid (HG.out.below k3)
        have HBT := Lib.hid (ref_bytes cap (some ⟨g, 0, none⟩) (encR x.r) W3 y1 (fun e => by cases e) (by have := HEL.out; omega))
        have HLR : Hid (0 < (encN (encR x.r).length ++ encR x.r).length ∧ (encN (encR x.r).length ++ encR x.r).length ≤ 1202) := Lib.hid (by
          have h2 := HEL.out
          have h3 := enc2_len h2
          have h4 := encN_len0 (encR x.r).length
          rw [List.length_append]
          omega)
        have hz3 := k3.size
        clear hown y1 b1 l1 e1 k3 HN HM a0 a1 a2 a3 a4 a5 a6 a7 a8
        go_wp2_with fail
        refine HBT.out.mono ?_; rintro e W4 ⟨⟨g2, cp2, rfl, hown2⟩, k4⟩
        have HG4 := Lib.hid (HG3.out.below k4)
        have hsrc := Own8.src hown2
        have hrow := HG4.out.row
        have hlen4 : w.heap.size ≤ W4.heap.size := HG4.out.hb.size
        have HPB : Hid (encN (encR x.r).length ++ encR x.r = encN (encR x.r).length ++ encR x.r) := Lib.hid rfl
        have q1 := HLR.out.1
        have q2 := HLR.out.2
        have q3 := HHL.out
        have HOKT : Hid (∀ P v, G8 w P v (P0 ++ (encN (encR x.r).length ++ encR x.r)) → GL w P v (L.map Mr.r) (k + 1)) := Lib.hid (fun P v h => ⟨by
            rw [HKS.out.2.2, bodyE_snoc, ← List.append_assoc, HP0.out]
            exact h, fun r hr => by
            rw [HKS.out.2.2] at hr
            rcases List.mem_append.1 hr with q | q
            · exact HKK.out r q
            · rw [List.mem_singleton.1 q]; exact HOKR.out⟩)
        clear hown2 k4 HBT HG3 HKS HKK HG
        generalize hP1 : encN (encR x.r).length ++ encR x.r = P1 at *
        clear hP1
        go_wp2_with (at_builtin; refine wpList_append_lies _ rfl (.tmp 30) (.tmp 32) _ rfl w.heap.size 5 i0 _ 1 1 Tryd.underlying28 hi0 hz0 hz1 hz2 rfl (by decide) (.slice Av P0.length cv) P0.length (bC P0) rfl hrow ⟨g2, 0, none⟩ P1.length cp2 (bC P1) rfl (by rw [bC_len]; omega) hsrc (bC_one _) q1 (by unfold maxLen; omega) (by omega) hlen4 _ rfl ?_; intro g5 cap5 W5 hown5 hg5 hat5 hlt5)
        have HF := Lib.hid (HOKT.out W5 _ (HG4.out.app (r := P1) (Below.refl _ _) (by omega) hown5 hg5))
        clear hown5 hg5 hat5 hlt5 hrow hsrc HG4 HOKT
        (try go_wp2)
        go_roundw
        case rel => exact ⟨k + 1, by omega, by go_num, HF.out⟩
        case measure => simp [intOf]; omega
    · obtain rfl : k = L.length := by omega
      have hall : (L.map Mr.r).take L.length = L.map Mr.r := List.take_of_length_le (by simp)
      have HE := Lib.hid (ls_yes (L := L.map Mr.r) (by simpa using H64.out) (fun r hr => HKK.out r (by rw [hall]; exact hr)))
      have HB3 := Lib.hid HG.out.hb
      have hPE := HP0.out
      rw [hall] at hPE
      have hlen0 : Av = none → P0.length = 0 ∧ cv = 0 := fun e => by
        subst e
        rcases HG.out.row.2 with ⟨h, h0⟩ | ⟨g', cap', cur, h, _⟩
        · injection h with _ _ h3; exact ⟨h0, h3⟩
        · cases h
      have HF : Hid (LsRes (L.map Mr.r) wr (.returned (.tuple #[.slice Av P0.length cv, .int .i64 0]))) := Lib.hid (by
        unfold LsRes
        rw [HE.out.1, HE.out.2, hPE]
        exact ⟨_, cv, rfl, HCV.out.2.2, hlen0, HCV.out.1, HCV.out.2.1⟩)
      clear hall hlt HE HCV HHL hlen0 hPE HP0 HG HKK
      go_wp2
      go_ret2
      exact ⟨HF.out, HB3.out⟩
end Go.Proofs.YtdffldlcbihjmaaDoor
