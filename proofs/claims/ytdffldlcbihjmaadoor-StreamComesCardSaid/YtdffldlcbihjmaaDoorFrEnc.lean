/- frame.Encode of one row; the reference's Encode of a frame. -/
import Derived.Test.YtdffldlcbihjmaaDoorFr4
set_option linter.unusedSimpArgs false
set_option linter.unusedVariables false
namespace Go.Proofs.YtdffldlcbihjmaaDoor
open Go.RowKit Go.Sort

/-- A row of the call's own that holds bytes. -/
structure Row8 (base : Nat) (w : World) (g cap m : Nat) (l : List Int) : Prop where
  own : w.ownsRow base 5 1 (.slice (some ⟨g, 0, none⟩) m cap) m (bC l)
  len : l.length = m
theorem Row8.own8 {base : Nat} {w : World} {g cap m : Nat} {l : List Int} (h : Row8 base w g cap m l) : Own8 base w (.slice (some ⟨g, 0, none⟩) l.length cap) l := by
  unfold Own8
  rw [h.len]
  exact h.own
theorem Row8.by_ {base : Nat} {w : World} {g cap m : Nat} {l : List Int} (h : Row8 base w g cap m l) : ByL w (some ⟨g, 0, none⟩) l := by
  obtain ⟨A, c, e, hb, _⟩ := Own8.bytes h.own8
  injection e with e1 e2 e3
  subst e1
  exact hb
theorem Row8.ge {base : Nat} {w : World} {g cap m : Nat} {l : List Int} (h : Row8 base w g cap m l) : base ≤ g ∧ g < w.heap.size := World.ownsRow.lt h.own g rfl
theorem Row8.below {base : Nat} {w w' : World} {g cap m : Nat} {l : List Int} (h : Row8 base w g cap m l) (k : Below w.heap.size w w') : Row8 base w' g cap m l :=
  ⟨(But.of_below (S := fun _ => False) k).row h.own (fun _ _ hf => hf), h.len⟩
theorem Row8.alloc {base : Nat} {w : World} {g cap m : Nat} {l : List Int} (h : Row8 base w g cap m l) (o : Obj) : Row8 base (w.alloc o) g cap m l := h.below ((Below.refl _ _).alloc (Nat.le_refl _) _)
theorem Row8.cap_le {base : Nat} {w : World} {g cap m : Nat} {l : List Int} (h : Row8 base w g cap m l) : m ≤ cap ∧ cap ≤ maxLen := by
  rcases h.own.2 with ⟨h, _⟩ | ⟨g', cap', cur, h, _, _, h1, h2, _⟩
  · cases h
  · injection h with _ _ h3
    omega
theorem fr_lay2 (base g cap m m4 : Nat) (l : List Int) (n : Nat) (w : World) (h : Row8 base w g cap m l) (hm : m + 4 = m4) (hbw : base ≤ w.heap.size) (hn : n < 4294967296) (hl : m ≤ 1000000) :
    Calls Tryd.prog 82 #[.slice (some ⟨g, 0, none⟩) m cap, .int .u32 (n : Int)] w fun e w' => ∃ g2 cap2, e = .returned (.slice (some ⟨g2, 0, none⟩) m4 cap2) ∧ Row8 base w' g2 cap2 m4 (l ++ enc4 n) ∧ Below base w w' := by
  have h1 := h.len
  subst hm
  subst h1
  refine (fr_lay base _ l n w h.own hbw hn hl).mono ?_
  rintro e w' ⟨g2, cap2, rfl, ho, hb⟩
  exact ⟨g2, cap2, rfl, ⟨ho, by simp [enc4_len]⟩, hb⟩
theorem Row8.first (w : World) (n : Nat) (hn : n ≤ 1000000) : Row8 w.heap.size (w.alloc (.cells (mk8 n) 5)) w.heap.size n 0 [] :=
  ⟨World.ownsRow_made (base := w.heap.size) (e := 5) (size := 1) w (mk8 n) n (Nat.le_refl _) (by unfold maxLen; omega) (mk8_size _), rfl⟩
set_option maxRecDepth 100000 in
set_option maxHeartbeats 4000000 in
theorem fr_encode (g c cc : Nat) (A : Option Addr) (p : List Int) (w : World) (ht : Nib w) (hlt : g < w.heap.size) (hz : w.cell? ⟨g, 0, none⟩ = some (.slice A p.length cc)) (hp : ByL w A p) (hb : isBy p) (hp0 : 0 < p.length) (hl : p.length ≤ 262144) :
    Calls Tryd.prog 51 #[.slice (some ⟨g, 0, none⟩) 1 c] w fun e w' => (∃ g2 cap2, e = .returned (.tuple #[.slice (some ⟨g2, 0, none⟩) (12 + p.length) cap2, .int .i64 0]) ∧ Row8 w.heap.size w' g2 cap2 (12 + p.length) (frE p)) ∧ Below w.heap.size w w' := by
  obtain ⟨i0, hi0, hz0, hz1, hz2⟩ := info_parts u8_info
  obtain ⟨B, O, rfl, hBl, hcells⟩ := hp hp0
  have hmk := run_mk8 (8 + p.length + 4) (by omega)
  have hcast : ((8 + p.length + 4 : Nat) : Int) = 8 + (p.length : Int) + 4 := by omega
  rw [hcast] at hmk
  have hwn : IntKind.u32.wrap (p.length : Int) = (p.length : Int) := IntWalk.u32_in _ (by omega)
  have hpi : (p.length : Int) ≤ 262144 := by omega
  have HP := Lib.hid (And.intro hp (And.intro hb hcells))
  have HT := Lib.hid (fun (W : World) (k : Below w.heap.size w W) => ht.below k)
  have HB0 : Hid (Below w.heap.size w (w.alloc (.cells (mk8 (8 + p.length + 4)) 5))) := Lib.hid (by (repeat' (first | (with_reducible exact Below.refl _ _) | (with_reducible assumption) | (with_reducible refine Below.trans ?_ (Below.mono (by with_reducible assumption) ?_)) | (with_reducible refine Below.alloc ?_ ?_ _) | (with_reducible refine Below.setCell ?_ ?_ _) | (with_reducible refine below_drewN ?_ _) | (with_reducible refine Below.drew ?_) | go_size)))
  have HR0 := Lib.hid (Row8.first w (8 + p.length + 4) (by omega))
  have HL1 := Lib.hid (fr_lay2 w.heap.size w.heap.size (8 + p.length + 4) 0 4 [] p.length _ HR0.out rfl HB0.out.size (by omega) (by omega))
  have HHD : Hid (∀ n, hdE n = enc4 n ++ enc4 (sumL (enc4 n))) := Lib.hid (fun _ => rfl)
  have HFR : Hid (frE p = (hdE p.length ++ p) ++ enc4 (sumL (hdE p.length ++ p))) := Lib.hid rfl
  clear ht hp hb hcells hcast
  go_enter Tryd.func51, Tryd.ntmps51
  go_wp2
  refine wp_loop_rounds 2 ?_
  rw [rounds_succ]
  go_wp2
  rw [rounds_succ]
  go_wp2_with fail
  refine HL1.out.mono ?_; rintro e w1 ⟨g1, cap1, rfl, hr1, k1⟩
  rw [List.nil_append] at hr1
  have HB1 := Lib.hid (HB0.out.trans k1)
  have kA : Below w1.heap.size w1 (w1.alloc (.cells #[.slice (some ⟨g1, 0, none⟩) 4 cap1] 28)) := (Below.refl _ _).alloc (Nat.le_refl _) _
  have HB2 := Lib.hid (HB1.out.trans (kA.mono HB1.out.size))
  have hr2 := hr1.below kA
  have HS1 := Lib.hid (oct_sum w1.heap.size 1 cap1 (some ⟨g1, 0, none⟩) (enc4 p.length) _ (HT.out _ HB2.out) (by simp [enc4_len]) hr2.by_ (enc4_by _) (by simp [enc4_len]))
  have HL2 := Lib.hid (fr_lay2 w.heap.size g1 cap1 4 8 (enc4 p.length) (sumL (enc4 p.length)) _ hr2 rfl HB2.out.size (sum_lt (enc4_by _)) (by omega))
  rw [← HHD.out] at HL2
  have hm1 := hr1.cap_le.1
  clear hr1 hr2 kA k1 HL1 HB0 HR0 hmk
  go_wp2_with fail
  refine HS1.out.mono ?_; rintro e w2 ⟨rfl, rfl⟩
  go_wp2_with fail
  refine HL2.out.mono ?_; rintro e w3 ⟨g2, cap2, rfl, hr3, k3⟩
  have HB3 := Lib.hid (HB2.out.trans k3)
  have z3 : w3.cell? ⟨g, 0, none⟩ = some (.slice (some ⟨B, O, none⟩) p.length cc) := (HB3.out.cell (p := ⟨g, 0, none⟩) hlt).trans hz
  have hsrc : ∀ j u, (bC p)[j]? = some u → w3.cell? ((⟨B, O, none⟩ : Addr).add j) = some u := fun j u hj => by
    rw [at_add]
    exact (HB3.out.cell (p := ⟨B, O + j, none⟩) hBl).trans (HP.out.2.2 j u hj)
  have hrow3 := hr3.own
  have HR3 := Lib.hid hr3
  have hbs3 : w.heap.size ≤ w3.heap.size := HB3.out.size
  clear hr3 k3 HL2 HS1 HB2 HB1 hm1
  go_wp2
  refine wp_loop_rounds 2 ?_
  rw [rounds_succ]
  go_wp2_with (at_builtin; refine wpList_append_lies _ rfl (.tmp 42) (.tmp 43) _ rfl w.heap.size 5 i0 _ 1 1 Tryd.underlying28 hi0 hz0 hz1 hz2 rfl (by decide) (.slice (some ⟨g2, 0, none⟩) 8 cap2) 8 (bC (hdE p.length)) rfl hrow3 ⟨B, O, none⟩ p.length cc (bC p) rfl (by rw [bC_len]; omega) hsrc (bC_one _) hp0 (by unfold maxLen; omega) (by omega) hbs3 _ rfl ?_; intro g4 cap4 w4 hown4 hg4 hat4 hlt4)
  have hb4 : Below w.heap.size w w4 := HB3.out.grown hg4 hbs3 (fun k hk => by
    have := HR3.out.ge
    simp [Value.ownBlock] at hk
    omega)
  have hr4 : Row8 w.heap.size w4 g4 cap4 (8 + p.length) (hdE p.length ++ p) := ⟨by rw [bC_append]; exact hown4, by simp [hdE_len]⟩
  have kA : Below w4.heap.size w4 (w4.alloc (.cells #[.slice (some ⟨g4, 0, none⟩) (8 + p.length) cap4] 28)) := (Below.refl _ _).alloc (Nat.le_refl _) _
  have HB5 := Lib.hid (hb4.trans (kA.mono hb4.size))
  have hr5 := hr4.below kA
  have hby5 : isBy (hdE p.length ++ p) := isBy_append (hdE_by _) HP.out.2.1
  have HS2 := Lib.hid (oct_sum w4.heap.size 1 cap4 (some ⟨g4, 0, none⟩) (hdE p.length ++ p) _ (HT.out _ HB5.out) (by rw [hr4.len]; simp) hr5.by_ hby5 (by rw [hr4.len]; omega))
  have HL3 := Lib.hid (fr_lay2 w.heap.size g4 cap4 (8 + p.length) (12 + p.length) (hdE p.length ++ p) (sumL (hdE p.length ++ p)) _ hr5 (by omega) HB5.out.size (sum_lt hby5) (by omega))
  rw [← HFR.out] at HL3
  clear hb4 hr4 hr5 kA hown4 hg4 hat4 hlt4 hrow3 hsrc z3 HR3 HB3 hbs3 hby5
  rw [rounds_succ]
  go_wp2_with fail
  refine HS2.out.mono ?_; rintro e w5 ⟨rfl, rfl⟩
  go_wp2_with fail
  refine HL3.out.mono ?_; rintro e w6 ⟨g6, cap6, rfl, hr6, k6⟩
  have HB6 := Lib.hid (HB5.out.trans k6)
  have HR6 := Lib.hid hr6
  clear hr6 k6 HL3 HS2
  go_wp2
  go_ret2
  exact ⟨⟨g6, cap6, rfl, HR6.out⟩, HB6.out⟩
set_option maxRecDepth 100000 in
set_option maxHeartbeats 4000000 in
theorem ref_frame (cc : Nat) (A : Option Addr) (p : List Int) (w : World) (hp : ByL w A p) (hb : isBy p) (hp0 : 0 < p.length) (hl : p.length ≤ 262144) :
    Calls Tryd.prog 56 #[.slice A p.length cc] w fun e w' => (∃ g2 cap2, e = .returned (.tuple #[.slice (some ⟨g2, 0, none⟩) (12 + p.length) cap2, .int .i64 0]) ∧ Row8 w.heap.size w' g2 cap2 (12 + p.length) (frE p)) ∧ Below w.heap.size w w' := by
  obtain ⟨i0, hi0, hz0, hz1, hz2⟩ := info_parts u8_info
  obtain ⟨B, O, rfl, hBl, hcells⟩ := hp hp0
  have hwn : IntKind.u32.wrap (p.length : Int) = (p.length : Int) := IntWalk.u32_in _ (by omega)
  have hpi : (p.length : Int) ≤ 262144 := by omega
  have HP := Lib.hid (And.intro hb hcells)
  have HF1 := Lib.hid (ref_four p.length w (by omega))
  have HHD : Hid (∀ n, hdE n = enc4 n ++ enc4 (sumL (enc4 n))) := Lib.hid (fun _ => rfl)
  have HFR : Hid (frE p = (hdE p.length ++ p) ++ enc4 (sumL (hdE p.length ++ p))) := Lib.hid rfl
  clear hp hb hcells
  go_enter Tryd.func56, Tryd.ntmps56
  go_wp2_with fail
  refine HF1.out.mono ?_; rintro e w1 ⟨rfl, ho1, k1⟩
  have hr1 : Row8 w.heap.size w1 w.heap.size 4 4 (enc4 p.length) := ⟨ho1, rfl⟩
  have HS1 := Lib.hid (ref_sum 4 (some ⟨w.heap.size, 0, none⟩) (enc4 p.length) w1 hr1.by_ (enc4_by _) (by simp [enc4_len]))
  have HF2 := Lib.hid (ref_four (sumL (enc4 p.length)) w1 (sum_lt (enc4_by _)))
  have HR1 := Lib.hid hr1
  have HB1 := Lib.hid k1
  clear hr1 ho1 k1 HF1
  go_wp2_with fail
  refine HS1.out.mono ?_; rintro e w2 ⟨rfl, rfl⟩
  go_wp2_with fail
  refine HF2.out.mono ?_; rintro e w3 ⟨rfl, ho3, k3⟩
  have hr3 : Row8 w1.heap.size w3 w1.heap.size 4 4 (enc4 (sumL (enc4 p.length))) := ⟨ho3, rfl⟩
  have hsrc3 : ∀ j u, (bC (enc4 (sumL (enc4 p.length))))[j]? = some u → w3.cell? ((⟨w1.heap.size, 0, none⟩ : Addr).add j) = some u := hr3.by_.cells
  have hrow3 := (HR1.out.below k3).own
  have HR3 := Lib.hid (HR1.out.below k3)
  have HB3 := Lib.hid (HB1.out.trans (k3.mono HB1.out.size))
  have hbs3 : w.heap.size ≤ w3.heap.size := HB3.out.size
  clear ho3 k3 hr3 HF2 HS1
  go_wp2_with (first | (at_builtin; refine wpList_append_lies _ rfl (.tmp 12) (.tmp 15) _ rfl w.heap.size 5 i0 _ 1 1 Tryd.underlying28 hi0 hz0 hz1 hz2 rfl (by decide) (.slice (some ⟨w.heap.size, 0, none⟩) 4 4) 4 (bC (enc4 p.length)) rfl hrow3 ⟨w1.heap.size, 0, none⟩ 4 4 (bC (enc4 (sumL (enc4 p.length)))) rfl rfl hsrc3 (bC_one _) (by omega) (by unfold maxLen; omega) (by omega) hbs3 _ rfl ?_; intro g4 cap4 w4 hown4 hg4 hat4 hlt4; have hb4 : Below w.heap.size w w4 := (HB3.out.grown hg4 hbs3 (fun k hk => by (have := HR3.out.ge); simp [Value.ownBlock] at hk; omega)); have hr4 : Row8 w.heap.size w4 g4 cap4 8 (hdE p.length) := ⟨(by rw [HHD.out, bC_append]; exact hown4), rfl⟩; have hsrc4 : ∀ j u, (bC p)[j]? = some u → w4.cell? ((⟨B, O, none⟩ : Addr).add j) = some u := (fun j u hj => by rw [at_add]; exact (hb4.cell (p := ⟨B, O + j, none⟩) hBl).trans (HP.out.2 j u hj)); have hrow4 := hr4.own; have HR4 := Lib.hid hr4; have HB4 := Lib.hid hb4; have hbs4 : w.heap.size ≤ w4.heap.size := hb4.size; clear hb4 hr4 hown4 hg4 hat4 hlt4 hrow3 hsrc3 HR3 HB3 hbs3) | (at_builtin; refine wpList_append_lies _ rfl (.tmp 17) (.tmp 18) _ rfl w.heap.size 5 i0 _ 1 1 Tryd.underlying28 hi0 hz0 hz1 hz2 rfl (by decide) (.slice (some ⟨g4, 0, none⟩) 8 cap4) 8 (bC (hdE p.length)) rfl hrow4 ⟨B, O, none⟩ p.length cc (bC p) rfl (by rw [bC_len]; omega) hsrc4 (bC_one _) hp0 (by unfold maxLen; omega) (by omega) hbs4 _ rfl ?_; intro g5 cap5 w5 hown5 hg5 hat5 hlt5; have hb5 : Below w.heap.size w w5 := (HB4.out.grown hg5 hbs4 (fun k hk => by (have := HR4.out.ge); simp [Value.ownBlock] at hk; omega)); have hr5 : Row8 w.heap.size w5 g5 cap5 (8 + p.length) (hdE p.length ++ p) := ⟨(by rw [bC_append]; exact hown5), (by simp [hdE_len])⟩; have HR5 := Lib.hid hr5; have HB5 := Lib.hid hb5; have hbs5 : w.heap.size ≤ w5.heap.size := hb5.size; clear hb5 hr5 hown5 hg5 hat5 hlt5 hrow4 hsrc4 HR4 HB4 hbs4))
  have hby5 : isBy (hdE p.length ++ p) := isBy_append (hdE_by _) HP.out.1
  have HS2 := Lib.hid (ref_sum cap5 (some ⟨g5, 0, none⟩) (hdE p.length ++ p) w5 HR5.out.by_ hby5 (by rw [HR5.out.len]; omega))
  rw [HR5.out.len] at HS2
  have HF3 := Lib.hid (ref_four (sumL (hdE p.length ++ p)) w5 (sum_lt hby5))
  clear hby5
  refine HS2.out.mono ?_; rintro e w6 ⟨rfl, rfl⟩
  go_wp2_with fail
  refine HF3.out.mono ?_; rintro e w7 ⟨rfl, ho7, k7⟩
  have hr7 : Row8 w5.heap.size w7 w5.heap.size 4 4 (enc4 (sumL (hdE p.length ++ p))) := ⟨ho7, rfl⟩
  have hsrc7 : ∀ j u, (bC (enc4 (sumL (hdE p.length ++ p))))[j]? = some u → w7.cell? ((⟨w5.heap.size, 0, none⟩ : Addr).add j) = some u := hr7.by_.cells
  have hrow7 := (HR5.out.below k7).own
  have HR7 := Lib.hid (HR5.out.below k7)
  have HB7 := Lib.hid (HB5.out.trans (k7.mono HB5.out.size))
  have hbs7 : w.heap.size ≤ w7.heap.size := HB7.out.size
  clear ho7 k7 hr7 HF3 HS2
  go_wp2_with (at_builtin; refine wpList_append_lies _ rfl (.tmp 20) (.tmp 23) _ rfl w.heap.size 5 i0 _ 1 1 Tryd.underlying28 hi0 hz0 hz1 hz2 rfl (by decide) (.slice (some ⟨g5, 0, none⟩) (8 + p.length) cap5) (8 + p.length) (bC (hdE p.length ++ p)) rfl hrow7 ⟨w5.heap.size, 0, none⟩ 4 4 (bC (enc4 (sumL (hdE p.length ++ p)))) rfl rfl hsrc7 (bC_one _) (by omega) (by unfold maxLen; omega) (by omega) hbs7 _ rfl ?_; intro g8 cap8 w8 hown8 hg8 hat8 hlt8)
  have hb8 : Below w.heap.size w w8 := HB7.out.grown hg8 hbs7 (fun k hk => by
    have := HR7.out.ge
    simp [Value.ownBlock] at hk
    omega)
  go_ret2
  have he : 8 + p.length + 4 = 12 + p.length := by omega
  simp only [he] at hown8 ⊢
  exact ⟨⟨g8, cap8, rfl, ⟨by rw [HFR.out, bC_append]; exact hown8, frE_len p⟩⟩, hb8⟩
end Go.Proofs.YtdffldlcbihjmaaDoor
