/- rec.List (written by gen/reclist.py). -/
import Derived.Test.YtpflbhcgkndpcaaGreatDoorG16s
import Derived.Test.YtpflbhcgkndpcaaGreatDoorRecEnc
set_option linter.unusedSimpArgs false
set_option linter.unusedVariables false
namespace Go.Proofs.YtpflbhcgkndpcaaGreatDoor
open Go.RowKit

/-- Records one behind the other, each with its length ahead. -/
def bodyE (L : List Rc) : List Int := L.flatMap fun r => encN (encR r).length ++ encR r
theorem bodyE_snoc (L : List Rc) (r : Rc) : bodyE (L ++ [r]) = bodyE L ++ (encN (encR r).length ++ encR r) := by simp [bodyE]
theorem enc2_len {n : Nat} (h : n ≤ 1200) : (encN n).length ≤ 2 := encN_len n 2 (by omega) (by omega)
theorem bodyE_len : ∀ (L : List Rc), (∀ r ∈ L, r.Ok) → (bodyE L).length ≤ L.length * 1202
  | [], _ => by simp [bodyE]
  | r :: t, h => by
    have h1 := encR_len r (h r (List.mem_cons_self ..))
    have h2 := enc2_len h1
    have h3 := bodyE_len t (fun x hx => h x (List.mem_cons_of_mem _ hx))
    show ((encN (encR r).length ++ encR r) ++ bodyE t).length ≤ _
    simp only [List.length_append, List.length_cons]
    omega
def lsV (L : List Rc) : List Int := if 64 < L.length then [] else if L.all okR = true then encN L.length ++ bodyE L else []
def lsC (L : List Rc) : Int := if 64 < L.length then 5 else if L.all okR = true then 0 else 1
theorem ls_long {L : List Rc} (h : 64 < L.length) : lsV L = [] ∧ lsC L = 5 := by unfold lsV lsC; rw [if_pos h, if_pos h]; exact ⟨rfl, rfl⟩
theorem ls_bad {L : List Rc} (h : ¬ 64 < L.length) {r : Rc} (hr : r ∈ L) (hk : okR r = false) : lsV L = [] ∧ lsC L = 1 := by
  have : ¬ L.all okR = true := fun q => by rw [List.all_eq_true] at q; rw [q r hr] at hk; cases hk
  unfold lsV lsC
  rw [if_neg h, if_neg h, if_neg this, if_neg this]
  exact ⟨rfl, rfl⟩
theorem ls_yes {L : List Rc} (h : ¬ 64 < L.length) (hr : ∀ r ∈ L, okR r = true) : lsV L = encN L.length ++ bodyE L ∧ lsC L = 0 := by
  have : L.all okR = true := List.all_eq_true.2 hr
  unfold lsV lsC
  rw [if_neg h, if_neg h, if_pos this, if_pos this]
  exact ⟨rfl, rfl⟩
/-- What List tells. -/
def LsRes (rs : List Rc) (w' : World) (e : Ending) : Prop := ∃ A c, e = .returned (.tuple #[.slice A (lsV rs).length c, .int .i64 (lsC rs)]) ∧ ByL w' A (lsV rs) ∧ (A = none → (lsV rs).length = 0 ∧ c = 0) ∧ (lsV rs).length ≤ c ∧ c ≤ maxLen
theorem lsRes_none {rs : List Rc} {k : Int} (w' : World) (h : lsV rs = [] ∧ lsC rs = k) : LsRes rs w' (.returned (.tuple #[.slice none 0 0, .int .i64 k])) := by
  unfold LsRes
  rw [h.1, h.2]
  exact ⟨none, 0, rfl, ByL.nil _ _, fun _ => ⟨rfl, rfl⟩, Nat.le_refl _, by unfold maxLen; omega⟩
/-- The writer, and what was laid of the list. -/
structure WL (w wr : World) (b : Nat) (v : Value) (rs : List Rc) (k : Nat) : Prop where
  wrt : Wr wr b v (encN rs.length ++ bodyE (rs.take k))
  bel : Below w.heap.size w wr
  ge : ∀ i, Foot b v i → w.heap.size ≤ i
  ok : ∀ r ∈ rs.take k, okR r = true
theorem WL.len {w wr : World} {b : Nat} {v : Value} {rs : List Rc} {k : Nat} (h : WL w wr b v rs k) (hl : rs.length ≤ 64) : (encN rs.length ++ bodyE (rs.take k)).length ≤ 80000 := by
  have h1 := bodyE_len (rs.take k) (fun r hr => (ok_iff r).1 (h.ok r hr))
  have h2 := enc2_len (n := rs.length) (by omega)
  rw [List.length_take] at h1
  rw [List.length_append]
  have : min k rs.length * 1202 ≤ 64 * 1202 := Nat.mul_le_mul_right _ (by omega)
  omega
set_option maxRecDepth 100000 in
set_option maxHeartbeats 4000000 in
theorem rec_list (v : Value) (L : List Mr) (w : World) (h : RowAt w v L) (hat : ∀ m ∈ L, m.At (fun _ => True) w) (hky : ∀ m ∈ L, isBy m.r.key) (hl : L.length ≤ 100000) :
    Calls Tryz.prog 28 #[v] w fun e w' => LsRes (L.map Mr.r) w' e ∧ Below w.heap.size w w' := by
  obtain ⟨A, c, rfl, hc⟩ := h.ex
  have hni : (L.length : Int) ≤ 100000 := by omega
  have HC := Lib.hid hc
  have HA := Lib.hid (And.intro hat hky)
  clear h hc hat hky
  by_cases h64 : 64 < L.length
  · have t1 : decide ((64 : Int) < (L.length : Int)) = true := by simp; omega
    have HE := Lib.hid (ls_long (L := L.map Mr.r) (by simpa using h64))
    clear h64
    go_enter Tryz.func28, Tryz.ntmps28
    go_wp2
    go_ret2
    exact ⟨lsRes_none _ HE.out, Below.refl _ _⟩
  have t1 : decide ((64 : Int) < (L.length : Int)) = false := by simp; omega
  have H64 := Lib.hid h64
  have W0 : Wr (w.alloc (.cells #[.slice none 0 0] 137)) w.heap.size (.slice none 0 0) [] := Wr.new w _
  have W1 := W0.below ((Below.refl _ _).alloc (Nat.le_refl _) (.cells #[.int .i64 (L.length : Int)] 3))
  have HN := Lib.hid (wr_nums w.heap.size (w.heap.size + 1) 1 (.slice none 0 0) [] [(L.length : Int)] _ W1 (by rintro (hk | hk) <;> first | omega | simp [Value.ownBlock] at hk) (by simp) (by intro j q; simp at q; subst q; simp [World.cell?_alloc_new, go_sem]; try omega) (by intro x hx; simp at hx; subst hx; omega) (by simp) (by have := enc2_len (n := L.length) (by omega); simp [numsE]; omega))
  have HB1 : Hid (Below w.heap.size w ((w.alloc (.cells #[.slice none 0 0] 137)).alloc (.cells #[.int .i64 (L.length : Int)] 3))) := Lib.hid (by (repeat' (first | (with_reducible exact Below.refl _ _) | (with_reducible assumption) | (with_reducible refine Below.trans ?_ (Below.mono (by with_reducible assumption) ?_)) | (with_reducible refine Below.alloc ?_ ?_ _) | (with_reducible refine Below.setCell ?_ ?_ _) | (with_reducible refine below_drewN ?_ _) | (with_reducible refine Below.drew ?_) | go_size)))
  clear W0 W1 h64
  go_enter Tryz.func28, Tryz.ntmps28
  go_wp2_with fail
  refine HN.out.mono ?_; rintro e W2 ⟨rfl, v2, hw2⟩
  have HS : Hid (WL w W2 w.heap.size v2 (L.map Mr.r) 0) := Lib.hid ⟨by have := hw2.wr; simpa [numsE, bodyE] using this, HB1.out.trans (hw2.but.below (fun i hi => by
      rcases hi with rfl | hi
      · exact Nat.le_refl _
      · simp [Value.ownBlock] at hi) (by simp only [World.size_alloc]; omega)), fun i hi => by
      rcases hi with rfl | hi
      · exact Nat.le_refl _
      · rcases hw2.fresh i hi with q | q
        · simp [Value.ownBlock] at q
        · have q' := q; simp only [World.size_alloc] at q'; omega, fun r hr => by simp at hr⟩
  clear hw2 HN HB1
  go_wp2
  go_loopw [18] (fun i wr => ∃ (k : Nat) (v : Value), k ≤ L.length ∧ i = .int .i64 k ∧ WL w wr w.heap.size v (L.map Mr.r) k) (fun i _ => L.length - (intOf i).toNat)
  case atStart => exact ⟨0, v2, Nat.zero_le _, rfl, HS.out⟩
  case round =>
    obtain ⟨k, vw, hk, rfl, hW⟩ := hrel
    clear HS
    by_cases hlt : k < L.length
    · have lk : (k : Int) < (L.length : Int) := by omega
      have hi1 : ((k : Int).toNat) = k := by simp
      obtain ⟨B, O, rfl, hBl, hcell⟩ := HC.out (by omega)
      have hx : L[k]? = some L[k] := List.getElem?_eq_getElem hlt
      have hm := HA.out.1 L[k] (List.getElem_mem hlt)
      have hkb := HA.out.2 L[k] (List.getElem_mem hlt)
      have hmr : L[k].r ∈ L.map Mr.r := List.mem_map_of_mem (List.getElem_mem hlt)
      have htk : (L.map Mr.r).take (k + 1) = (L.map Mr.r).take k ++ [L[k].r] := by rw [List.take_succ_eq_append_getElem (by simpa using hlt)]; simp
      generalize L[k] = x at *
      have hB := hW.bel
      have a0 : wr.cell? ⟨B, O + k * 9, none⟩ = some (.int .i64 x.r.o) := (hB.cell (p := ⟨B, O + k * 9, none⟩) hBl).trans (hcell (k * 9) _ (by have := rowM_at hx 0 (by omega); rwa [Nat.add_zero] at this))
      have a1 : wr.cell? ⟨B, O + k * 9 + 1, none⟩ = some (.int .i64 x.r.s) := by rw [Nat.add_assoc]; exact (hB.cell (p := ⟨B, O + (k * 9 + 1), none⟩) hBl).trans (hcell _ _ (rowM_at hx 1 (by omega)))
      have a2 : wr.cell? ⟨B, O + k * 9 + 2, none⟩ = some (.string (strB x.r.key)) := by rw [Nat.add_assoc]; exact (hB.cell (p := ⟨B, O + (k * 9 + 2), none⟩) hBl).trans (hcell _ _ (rowM_at hx 2 (by omega)))
      have a3 : wr.cell? ⟨B, O + k * 9 + 3, none⟩ = some (.int .i64 x.r.ml) := by rw [Nat.add_assoc]; exact (hB.cell (p := ⟨B, O + (k * 9 + 3), none⟩) hBl).trans (hcell _ _ (rowM_at hx 3 (by omega)))
      have a4 : wr.cell? ⟨B, O + k * 9 + 4, none⟩ = some (.int .i64 x.r.ct) := by rw [Nat.add_assoc]; exact (hB.cell (p := ⟨B, O + (k * 9 + 4), none⟩) hBl).trans (hcell _ _ (rowM_at hx 4 (by omega)))
      have a5 : wr.cell? ⟨B, O + k * 9 + 5, none⟩ = some (.int .i64 x.r.vo) := by rw [Nat.add_assoc]; exact (hB.cell (p := ⟨B, O + (k * 9 + 5), none⟩) hBl).trans (hcell _ _ (rowM_at hx 5 (by omega)))
      have a6 : wr.cell? ⟨B, O + k * 9 + 6, none⟩ = some (.slice x.A x.r.val.length x.c) := by rw [Nat.add_assoc]; exact (hB.cell (p := ⟨B, O + (k * 9 + 6), none⟩) hBl).trans (hcell _ _ (rowM_at hx 6 (by omega)))
      have a7 : wr.cell? ⟨B, O + k * 9 + 7, none⟩ = some (.bool x.r.gone) := by rw [Nat.add_assoc]; exact (hB.cell (p := ⟨B, O + (k * 9 + 7), none⟩) hBl).trans (hcell _ _ (rowM_at hx 7 (by omega)))
      have a8 : wr.cell? ⟨B, O + k * 9 + 8, none⟩ = some (.int .i64 x.r.tt) := by rw [Nat.add_assoc]; exact (hB.cell (p := ⟨B, O + (k * 9 + 8), none⟩) hBl).trans (hcell _ _ (rowM_at hx 8 (by omega)))
      have hKs : kL (strB x.r.key) = x.r.key := kL_str hkb
      have HOK : Hid (okR x.r = okN x.r.o x.r.s (strB x.r.key).size x.r.ml x.r.ct x.r.vo x.r.val.length x.r.gone x.r.tt) := Lib.hid (by rw [okR_n, strB_size])
      have HWA := Lib.hid (And.intro (hW.wrt.below ((Below.refl _ _).alloc (Nat.le_refl _) (recO x.r.o x.r.s (strB x.r.key) x.r.ml x.r.ct x.r.vo x.A x.r.val.length x.c x.r.gone x.r.tt))) (hB.alloc hB.size (recO x.r.o x.r.s (strB x.r.key) x.r.ml x.r.ct x.r.vo x.A x.r.val.length x.c x.r.gone x.r.tt)))
      have HM : Hid (ByL (wr.alloc (recO x.r.o x.r.s (strB x.r.key) x.r.ml x.r.ct x.r.vo x.A x.r.val.length x.c x.r.gone x.r.tt)) x.A x.r.val ∧ (x.A = none → x.r.val.length = 0)) := Lib.hid ⟨(hm.b.below hB).alloc _, hm.n⟩
      have HW := Lib.hid hW
      have HKS := Lib.hid (And.intro hKs (And.intro hmr htk))
      clear hm hkb hcell hx hB hW hKs hmr htk
      cases hok : okR x.r
      · have HE := Lib.hid (ls_bad (L := L.map Mr.r) (by simpa using H64.out) HKS.out.2.1 hok)
        have HN := Lib.hid (rec_enc_no x.r.o x.r.s (strB x.r.key) x.r.ml x.r.ct x.r.vo x.A x.r.val.length x.c x.r.gone x.r.tt (wr.alloc (recO x.r.o x.r.s (strB x.r.key) x.r.ml x.r.ct x.r.vo x.A x.r.val.length x.c x.r.gone x.r.tt)) (by rw [← HOK.out]; exact hok))
        clear hok HM HW HKS
        go_wp2_with fail
        refine HN.out.mono ?_; rintro e W3 ⟨rfl, k3⟩
        have HB3 := Lib.hid (HWA.out.2.trans (k3.mono HWA.out.2.size))
        clear k3 HN a0 a1 a2 a3 a4 a5 a6 a7 a8
        go_wp2
        go_ret2
        exact ⟨lsRes_none _ HE.out, HB3.out⟩
      · have HN := Lib.hid (rec_enc_yes x.r.o x.r.s (strB x.r.key) x.r.ml x.r.ct x.r.vo x.A x.r.val x.c x.r.gone x.r.tt (wr.alloc (recO x.r.o x.r.s (strB x.r.key) x.r.ml x.r.ct x.r.vo x.A x.r.val.length x.c x.r.gone x.r.tt)) (by rw [← HOK.out]; exact hok) HM.out.1 HM.out.2)
        rw [HKS.out.1] at HN
        have HEL : Hid ((encR x.r).length ≤ 1200) := Lib.hid (encR_len _ ((ok_iff _).1 hok))
        have HOKR := Lib.hid hok
        clear hok
        go_wp2_with fail
        refine HN.out.mono ?_; rintro e W3 ⟨g, cap, rfl, hown, k3⟩
        change Own8 _ W3 (.slice (some ⟨g, 0, none⟩) (encR x.r).length cap) (encR x.r) at hown
        have HB3 := Lib.hid (HWA.out.2.trans (k3.mono HWA.out.2.size))
        have HW3 := Lib.hid (HWA.out.1.below k3)
        obtain ⟨A1, c1, e1, y1, b1, l1⟩ := Own8.bytes hown
        obtain ⟨rfl, rfl⟩ : some (⟨g, 0, none⟩ : Addr) = A1 ∧ cap = c1 := by injection e1 with q1 q2 q3; exact ⟨q1, q3⟩
        have hgw : wr.heap.size < g := by have := (b1 _ rfl).1; simp at this; omega
        have kA : Below W3.heap.size W3 (W3.alloc (.cells #[.slice (some ⟨g, 0, none⟩) (encR x.r).length cap] 42)) := (Below.refl _ _).alloc (Nat.le_refl _) _
        have HWB := Lib.hid (wr_bytes w.heap.size W3.heap.size 1 cap (some ⟨g, 0, none⟩) vw _ (encR x.r) _ (HW3.out.below kA) (fun hf => by have := HW3.out.foot_lt _ hf; omega) (by simp) (by simp [go_sem]) (y1.below kA) (fun _ ad had hf => by injection had with had; subst had; have := HW.out.wrt.foot_lt _ hf; simp only at this; omega) (fun e => by cases e) (by
          have h1 := HW.out.len (by have := H64.out; simp; omega)
          have h2 := HEL.out
          have h3 := enc2_len h2
          simp only [List.length_append] at h1 ⊢
          omega))
        have HKA := Lib.hid (HB3.out.trans (kA.mono HB3.out.size))
        have hz3 : w.heap.size ≤ W3.heap.size := HB3.out.size
        clear hown y1 b1 l1 e1 k3 kA HN HM a0 a1 a2 a3 a4 a5 a6 a7 a8
        go_wp2_with fail
        refine HWB.out.mono ?_; rintro e W4 ⟨rfl, v4, hw4⟩
        have HWL : Hid (WL w W4 w.heap.size v4 (L.map Mr.r) (k + 1)) := Lib.hid ⟨by
            have q := hw4.wr
            rw [HKS.out.2.2, bodyE_snoc, ← List.append_assoc]
            exact q, HKA.out.trans (hw4.but.below (fun i hi => HW.out.ge i hi) HKA.out.size), fun i hi => by
            rcases hi with rfl | hi
            · exact Nat.le_refl _
            · rcases hw4.fresh i hi with q | q
              · exact HW.out.ge i (.inr q)
              · have q' := q; simp only [World.size_alloc] at q'; omega, fun r hr => by
            rw [HKS.out.2.2] at hr
            rcases List.mem_append.1 hr with q | q
            · exact HW.out.ok r q
            · rw [List.mem_singleton.1 q]; exact HOKR.out⟩
        clear hw4 HWB HW HKA HW3 HB3 HWA HKS
        go_wp2
        go_roundw
        case rel => exact ⟨k + 1, v4, by omega, by go_num, HWL.out⟩
        case measure => simp [intOf]; omega
    · obtain rfl : k = L.length := by omega
      have hall : (L.map Mr.r).take L.length = L.map Mr.r := List.take_of_length_le (by simp)
      have HE := Lib.hid (ls_yes (L := L.map Mr.r) (by simpa using H64.out) (fun r hr => hW.ok r (by rw [hall]; exact hr)))
      have hlen := hW.len (by have := H64.out; simp; omega)
      have HO := Lib.hid (wr_out w.heap.size vw _ wr hW.wrt (by omega))
      rw [hall] at HO
      have HB := Lib.hid hW.bel
      clear hW hall hlen hlt
      go_wp2_with fail
      refine HO.out.mono ?_; rintro e W3 ⟨⟨g, cap, rfl, hown⟩, k3⟩
      have HB3 := Lib.hid (HB.out.trans (k3.mono HB.out.size))
      obtain ⟨A1, c1, e1, y1, b1, l1⟩ := Own8.bytes hown
      obtain ⟨rfl, rfl⟩ : some (⟨g, 0, none⟩ : Addr) = A1 ∧ cap = c1 := by injection e1 with q1 q2 q3; exact ⟨q1, q3⟩
      have hcm : cap ≤ maxLen := by
        rcases hown.2 with ⟨h, _⟩ | ⟨g', cap', cur, h, _, _, _, h2, _⟩
        · cases h
        · injection h with _ _ h3; omega
      have HF : Hid (LsRes (L.map Mr.r) W3 (.returned (.tuple #[.slice (some ⟨g, 0, none⟩) (encN (L.map Mr.r).length ++ bodyE (L.map Mr.r)).length cap, .int .i64 0]))) := Lib.hid (by
        unfold LsRes
        rw [HE.out.1, HE.out.2]
        exact ⟨_, cap, rfl, y1, (fun e => by cases e), l1, hcm⟩)
      clear hown y1 b1 l1 e1 k3 HO HB HE
      go_wp2
      go_ret2
      have q := HF.out
      simp only [List.length_append, List.length_map] at q
      exact ⟨q, HB3.out⟩
end Go.Proofs.YtpflbhcgkndpcaaGreatDoor
