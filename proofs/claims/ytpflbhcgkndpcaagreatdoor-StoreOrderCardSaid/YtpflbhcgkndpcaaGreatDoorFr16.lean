/- Stage 16: octet.Join and frame.Encode of two rows (the second out of XFrEnc by gen/fr2.py). -/
import Derived.Test.YtpflbhcgkndpcaaGreatDoorG16k
import Derived.Test.YtpflbhcgkndpcaaGreatDoorG16m
set_option linter.unusedSimpArgs false
set_option linter.unusedVariables false
namespace Go.Proofs.YtpflbhcgkndpcaaGreatDoor
open Go.RowKit Go.Sort

set_option maxRecDepth 100000 in
set_option maxHeartbeats 4000000 in
theorem oct_join2 (g c cq cc n : Nat) (Aq A : Option Addr) (q p : List Int) (w : World) (hlt : g < w.heap.size) (hzq : w.cell? ⟨g, 0, none⟩ = some (.slice Aq q.length cq)) (hz : w.cell? ⟨g, 1, none⟩ = some (.slice A p.length cc)) (hq : ByL w Aq q) (hq0 : 0 < q.length) (hp : ByL w A p) (hp0 : 0 < p.length) (hn : q.length + p.length = n) (hl : n ≤ 1000000) :
    Calls Tryz.prog 30 #[.slice (some ⟨g, 0, none⟩) 2 c] w fun e w' => (∃ g2 cap, e = .returned (.slice (some ⟨g2, 0, none⟩) n cap) ∧ Row8 w.heap.size w' g2 cap n (q ++ p)) ∧ Below w.heap.size w w' := by
  obtain ⟨i0, hi0, hz0, hz1, hz2⟩ := info_parts u8_info
  obtain ⟨B, O, rfl, hBl, hcells⟩ := hp hp0
  obtain ⟨Bq, Oq, rfl, hBlq, hcellsq⟩ := hq hq0
  have hmk := run_mk8 n hl
  have hpi : (n : Int) ≤ 1000000 := by omega
  have hsum : (q.length : Int) + (p.length : Int) = (n : Int) := by omega
  have hwsum : IntKind.i64.wrap (n : Int) = (n : Int) := IntWalk.i64_in _ (by omega)
  have hwq : IntKind.i64.wrap (q.length : Int) = (q.length : Int) := IntWalk.i64_in _ (by omega)
  have HB0 : Hid (Below w.heap.size w (w.alloc (.cells (mk8 n) 5))) := Lib.hid (by (repeat' (first | (with_reducible exact Below.refl _ _) | (with_reducible assumption) | (with_reducible refine Below.trans ?_ (Below.mono (by with_reducible assumption) ?_)) | (with_reducible refine Below.alloc ?_ ?_ _) | (with_reducible refine Below.setCell ?_ ?_ _) | (with_reducible refine below_drewN ?_ _) | (with_reducible refine Below.drew ?_) | go_size)))
  have HR0 := Lib.hid (Row8.first w n (by omega))
  have HC := Lib.hid (And.intro hcells hcellsq)
  clear hp hcells hq hcellsq
  go_enter Tryz.func30, Tryz.ntmps30
  go_wp2
  refine wp_loop_rounds 3 ?_
  rw [rounds_succ]
  go_wp2
  rw [rounds_succ]
  go_wp2
  rw [rounds_succ]
  go_wp2
  have hrow := HR0.out.own
  have hb1 := HB0.out
  have z0 : (w.alloc (.cells (mk8 n) 5)).cell? ⟨g, 0, none⟩ = some (.slice (some ⟨Bq, Oq, none⟩) q.length cq) := (HB0.out.cell (p := ⟨g, 0, none⟩) hlt).trans hzq
  generalize w.alloc (.cells (mk8 n) 5) = w1 at *
  have hsrc : ∀ j u, (bC q)[j]? = some u → w1.cell? ((⟨Bq, Oq, none⟩ : Addr).add j) = some u := fun j u hj => by
    rw [at_add]
    exact (hb1.cell (p := ⟨Bq, Oq + j, none⟩) hBlq).trans (HC.out.2 j u hj)
  have hbs : w.heap.size ≤ w1.heap.size := hb1.size
  refine wp_loop_rounds 3 ?_
  rw [rounds_succ]
  go_wp2_with (at_builtin; refine wpList_append_lies _ rfl (.tmp 28) (.tmp 29) _ rfl w.heap.size 5 i0 _ 1 1 Tryz.underlying42 hi0 hz0 hz1 hz2 rfl (by decide) (.slice (some ⟨w.heap.size, 0, none⟩) 0 n) 0 (bC []) rfl hrow ⟨Bq, Oq, none⟩ q.length cq (bC q) rfl (by rw [bC_len]; omega) hsrc (bC_one _) hq0 (by unfold maxLen; omega) (by omega) hbs _ rfl ?_; intro g2 cap2 w2 hown2 hg2 hat2 hlt2)
  have hb2 : Below w.heap.size w w2 := hb1.grown hg2 hbs (fun k hk => by simp [Value.ownBlock] at hk; omega)
  have hg2 : w.heap.size ≤ g2 := (World.ownsRow.lt hown2 g2 rfl).1
  rw [Nat.zero_add] at hown2
  have z2 : w2.cell? ⟨g, 1, none⟩ = some (.slice (some ⟨B, O, none⟩) p.length cc) := (hb2.cell (p := ⟨g, 1, none⟩) hlt).trans hz
  have HB2 := Lib.hid hb2
  have hsrc2 : ∀ j u, (bC p)[j]? = some u → w2.cell? ((⟨B, O, none⟩ : Addr).add j) = some u := fun j u hj => by
    rw [at_add]
    exact (HB2.out.cell (p := ⟨B, O + j, none⟩) hBl).trans (HC.out.1 j u hj)
  have hbs2 : w.heap.size ≤ w2.heap.size := hb2.size
  have HG2 := Lib.hid hg2
  clear hsrc hbs hb1 hb2 z0 hrow hat2 hlt2 hg2
  rw [rounds_succ]
  go_wp2_with (at_builtin; refine wpList_append_lies _ rfl (.tmp 28) (.tmp 29) _ rfl w.heap.size 5 i0 _ 1 1 Tryz.underlying42 hi0 hz0 hz1 hz2 rfl (by decide) (.slice (some ⟨g2, 0, none⟩) q.length cap2) q.length (bC [] ++ bC q) rfl hown2 ⟨B, O, none⟩ p.length cc (bC p) rfl (by rw [bC_len]; omega) hsrc2 (bC_one _) hp0 (by unfold maxLen; omega) (by omega) hbs2 _ rfl ?_; intro g3 cap3 w3 hown3 hg3 hat3 hlt3)
  have HB3 := Lib.hid (HB2.out.grown hg3 hbs2 (fun k hk => by
    have := HG2.out
    simp [Value.ownBlock] at hk
    omega))
  have hlen : q.length + p.length = n := hn
  rw [hlen] at hown3
  have HR3 : Hid (Row8 w.heap.size w3 g3 cap3 n (q ++ p)) := Lib.hid ⟨by rw [bC_append]; simpa [show bC [] = [] from rfl] using hown3, by simp; omega⟩
  clear hown3 hg3 hat3 hlt3 hown2 hsrc2 hbs2 z2
  rw [rounds_succ]
  go_wp2
  go_ret
  exact ⟨⟨g3, cap3, rfl, HR3.out⟩, HB3.out⟩
set_option maxRecDepth 100000 in
set_option maxHeartbeats 4000000 in
theorem fr_encode2 (g c cq cc n : Nat) (Aq A : Option Addr) (q p : List Int) (w : World) (ht : Nib w) (hlt : g < w.heap.size) (hzq : w.cell? ⟨g, 0, none⟩ = some (.slice Aq q.length cq)) (hz : w.cell? ⟨g, 1, none⟩ = some (.slice A p.length cc)) (hq : ByL w Aq q) (hbq : isBy q) (hq0 : 0 < q.length) (hp : ByL w A p) (hb : isBy p) (hp0 : 0 < p.length) (hn : q.length + p.length = n) (hl : n ≤ 262144) :
    Calls Tryz.prog 104 #[.slice (some ⟨g, 0, none⟩) 2 c] w fun e w' => (∃ g2 cap2, e = .returned (.tuple #[.slice (some ⟨g2, 0, none⟩) (12 + n) cap2, .int .i64 0]) ∧ Row8 w.heap.size w' g2 cap2 (12 + n) (frE (q ++ p))) ∧ Below w.heap.size w w' := by
  obtain ⟨i0, hi0, hz0, hz1, hz2⟩ := info_parts u8_info
  obtain ⟨B, O, rfl, hBl, hcells⟩ := hp hp0
  obtain ⟨Bq, Oq, rfl, hBlq, hcellsq⟩ := hq hq0
  have hmk := run_mk8 (8 + n + 4) (by omega)
  have hcast : ((8 + n + 4 : Nat) : Int) = 8 + (n : Int) + 4 := by omega
  rw [hcast] at hmk
  have hwn : IntKind.u32.wrap (n : Int) = (n : Int) := IntWalk.u32_in _ (by omega)
  have hpi : (n : Int) ≤ 262144 := by omega
  have hsum : (q.length : Int) + (p.length : Int) = (n : Int) := by omega
  have hwsum : IntKind.i64.wrap (n : Int) = (n : Int) := IntWalk.i64_in _ (by omega)
  have hwq : IntKind.i64.wrap (q.length : Int) = (q.length : Int) := IntWalk.i64_in _ (by omega)
  have HP := Lib.hid (And.intro hp (And.intro hb hcells))
  have HQ := Lib.hid (And.intro hq (And.intro hbq hcellsq))
  have HT := Lib.hid (fun (W : World) (k : Below w.heap.size w W) => ht.below k)
  have HB0 : Hid (Below w.heap.size w (w.alloc (.cells (mk8 (8 + n + 4)) 5))) := Lib.hid (by (repeat' (first | (with_reducible exact Below.refl _ _) | (with_reducible assumption) | (with_reducible refine Below.trans ?_ (Below.mono (by with_reducible assumption) ?_)) | (with_reducible refine Below.alloc ?_ ?_ _) | (with_reducible refine Below.setCell ?_ ?_ _) | (with_reducible refine below_drewN ?_ _) | (with_reducible refine Below.drew ?_) | go_size)))
  have HR0 := Lib.hid (Row8.first w (8 + n + 4) (by omega))
  have HL1 := Lib.hid (fr_lay2 w.heap.size w.heap.size (8 + n + 4) 0 4 [] n _ HR0.out rfl HB0.out.size (by omega) (by omega))
  have HHD : Hid (∀ n, hdE n = enc4 n ++ enc4 (sumL (enc4 n))) := Lib.hid (fun _ => rfl)
  have HFR : Hid (frE (q ++ p) = (hdE n ++ q ++ p) ++ enc4 (sumL (hdE n ++ q ++ p))) := Lib.hid (by subst hn; rw [show hdE (q.length + p.length) ++ q ++ p = hdE (q ++ p).length ++ (q ++ p) from by rw [List.append_assoc, List.length_append]]; rfl)
  clear ht hp hb hcells hq hbq hcellsq hcast
  go_enter Tryz.func104, Tryz.ntmps104
  go_wp2
  refine wp_loop_rounds 3 ?_
  rw [rounds_succ]
  go_wp2
  rw [rounds_succ]
  go_wp2
  rw [rounds_succ]
  go_wp2_with fail
  refine HL1.out.mono ?_; rintro e w1 ⟨g1, cap1, rfl, hr1, k1⟩
  rw [List.nil_append] at hr1
  have HB1 := Lib.hid (HB0.out.trans k1)
  have kA : Below w1.heap.size w1 (w1.alloc (.cells #[.slice (some ⟨g1, 0, none⟩) 4 cap1] 42)) := (Below.refl _ _).alloc (Nat.le_refl _) _
  have HB2 := Lib.hid (HB1.out.trans (kA.mono HB1.out.size))
  have hr2 := hr1.below kA
  have HS1 := Lib.hid (oct_sum w1.heap.size 1 cap1 (some ⟨g1, 0, none⟩) (enc4 n) _ (HT.out _ HB2.out) (by simp [enc4_len]) hr2.by_ (enc4_by _) (by simp [enc4_len]))
  have HL2 := Lib.hid (fr_lay2 w.heap.size g1 cap1 4 8 (enc4 n) (sumL (enc4 n)) _ hr2 rfl HB2.out.size (sum_lt (enc4_by _)) (by omega))
  rw [← HHD.out] at HL2
  have hm1 := hr1.cap_le.1
  clear hr1 hr2 kA k1 HL1 HB0 HR0 hmk
  go_wp2_with fail
  refine HS1.out.mono ?_; rintro e w2 ⟨rfl, rfl⟩
  go_wp2_with fail
  refine HL2.out.mono ?_; rintro e w3 ⟨g2, cap2, rfl, hr3, k3⟩
  have HB3 := Lib.hid (HB2.out.trans k3)
  have z3 : w3.cell? ⟨g, 0, none⟩ = some (.slice (some ⟨Bq, Oq, none⟩) q.length cq) := (HB3.out.cell (p := ⟨g, 0, none⟩) hlt).trans hzq
  have hsrc : ∀ j u, (bC q)[j]? = some u → w3.cell? ((⟨Bq, Oq, none⟩ : Addr).add j) = some u := fun j u hj => by
    rw [at_add]
    exact (HB3.out.cell (p := ⟨Bq, Oq + j, none⟩) hBlq).trans (HQ.out.2.2 j u hj)
  have hrow3 := hr3.own
  have HR3 := Lib.hid hr3
  have hbs3 : w.heap.size ≤ w3.heap.size := HB3.out.size
  clear hr3 k3 HL2 HS1 HB2 HB1 hm1
  go_wp2
  refine wp_loop_rounds 3 ?_
  rw [rounds_succ]
  go_wp2_with (at_builtin; refine wpList_append_lies _ rfl (.tmp 42) (.tmp 43) _ rfl w.heap.size 5 i0 _ 1 1 Tryz.underlying42 hi0 hz0 hz1 hz2 rfl (by decide) (.slice (some ⟨g2, 0, none⟩) 8 cap2) 8 (bC (hdE n)) rfl hrow3 ⟨Bq, Oq, none⟩ q.length cq (bC q) rfl (by rw [bC_len]; omega) hsrc (bC_one _) hq0 (by unfold maxLen; omega) (by omega) hbs3 _ rfl ?_; intro g3 cap3 w33 hown4 hg4 hat4 hlt4)
  have hb33 : Below w.heap.size w w33 := HB3.out.grown hg4 hbs3 (fun k hk => by
    have := HR3.out.ge
    simp [Value.ownBlock] at hk
    omega)
  have HB33 := Lib.hid hb33
  have hr33 : Row8 w.heap.size w33 g3 cap3 (8 + q.length) (hdE n ++ q) := ⟨by rw [bC_append]; exact hown4, by simp [hdE_len]⟩
  have HR33 := Lib.hid hr33
  have z33 : w33.cell? ⟨g, 1, none⟩ = some (.slice (some ⟨B, O, none⟩) p.length cc) := (hb33.cell (p := ⟨g, 1, none⟩) hlt).trans hz
  have hsrc2 : ∀ j u, (bC p)[j]? = some u → w33.cell? ((⟨B, O, none⟩ : Addr).add j) = some u := fun j u hj => by
    rw [at_add]
    exact (HB33.out.cell (p := ⟨B, O + j, none⟩) hBl).trans (HP.out.2.2 j u hj)
  have hrow33 := hr33.own
  have hbs33 : w.heap.size ≤ w33.heap.size := hb33.size
  clear hb33 hr33 hown4 hg4 hat4 hlt4 hrow3 hsrc z3 HR3 HB3 hbs3
  rw [rounds_succ]
  go_wp2_with (at_builtin; refine wpList_append_lies _ rfl (.tmp 42) (.tmp 43) _ rfl w.heap.size 5 i0 _ 1 1 Tryz.underlying42 hi0 hz0 hz1 hz2 rfl (by decide) (.slice (some ⟨g3, 0, none⟩) (8 + q.length) cap3) (8 + q.length) (bC (hdE n ++ q)) rfl hrow33 ⟨B, O, none⟩ p.length cc (bC p) rfl (by rw [bC_len]; omega) hsrc2 (bC_one _) hp0 (by unfold maxLen; omega) (by omega) hbs33 _ rfl ?_; intro g4 cap4 w4 hown4 hg4 hat4 hlt4)
  have hb4 : Below w.heap.size w w4 := HB33.out.grown hg4 hbs33 (fun k hk => by
    have := HR33.out.ge
    simp [Value.ownBlock] at hk
    omega)
  have hlen4 : 8 + q.length + p.length = 8 + n := by omega
  rw [hlen4] at hown4 ⊢
  have hr4 : Row8 w.heap.size w4 g4 cap4 (8 + n) (hdE n ++ q ++ p) := ⟨by rw [bC_append]; exact hown4, by simp [hdE_len]; omega⟩
  have kA : Below w4.heap.size w4 (w4.alloc (.cells #[.slice (some ⟨g4, 0, none⟩) (8 + n) cap4] 42)) := (Below.refl _ _).alloc (Nat.le_refl _) _
  have HB5 := Lib.hid (hb4.trans (kA.mono hb4.size))
  have hr5 := hr4.below kA
  have hby5 : isBy (hdE n ++ q ++ p) := isBy_append (isBy_append (hdE_by _) HQ.out.2.1) HP.out.2.1
  have HS2 := Lib.hid (oct_sum w4.heap.size 1 cap4 (some ⟨g4, 0, none⟩) (hdE n ++ q ++ p) _ (HT.out _ HB5.out) (by rw [hr4.len]; simp) hr5.by_ hby5 (by rw [hr4.len]; omega))
  have HL3 := Lib.hid (fr_lay2 w.heap.size g4 cap4 (8 + n) (12 + n) (hdE n ++ q ++ p) (sumL (hdE n ++ q ++ p)) _ hr5 (by omega) HB5.out.size (sum_lt hby5) (by omega))
  rw [← HFR.out] at HL3
  clear hb4 hr4 hr5 kA hown4 hg4 hat4 hlt4 hrow33 hsrc2 z33 HR33 HB33 hbs33 hby5
  rw [rounds_succ]
  go_wp2_with fail
  refine HS2.out.mono ?_; rintro e w5 ⟨rfl, rfl⟩
  go_wp2_with fail
  refine HL3.out.mono ?_; rintro e w6 ⟨g6, cap6, rfl, hr6, k6⟩
  have HB6 := Lib.hid (HB5.out.trans k6)
  have HR6 := Lib.hid hr6
  clear hr6 k6 HL3 HS2
  go_wp2
  go_ret2
  exact ⟨⟨g6, cap6, rfl, HR6.out⟩, HB6.out⟩
end Go.Proofs.YtpflbhcgkndpcaaGreatDoor
