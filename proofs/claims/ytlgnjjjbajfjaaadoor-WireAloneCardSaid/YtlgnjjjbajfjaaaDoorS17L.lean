/- Stage 17: WireAlone walked. -/
/- test -/
/- Stage 17: WireAlone: the card. (for every word and what is put behind it) -/
import Derived.Test.YtlgnjjjbajfjaaaDoorWdBeat
import Derived.Test.YtlgnjjjbajfjaaaDoorRef17
import Derived.Test.YtlgnjjjbajfjaaaDoorKnown17
import Derived.Test.YtlgnjjjbajfjaaaDoorRowSet
import Derived.Test.YtlgnjjjbajfjaaaDoorCard17
set_option linter.unusedSimpArgs false
set_option linter.unusedVariables false
namespace Go.Proofs.YtlgnjjjbajfjaaaDoor
open Go.RowKit Go.Sort

set_option maxRecDepth 100000 in
set_option maxHeartbeats 8000000 in
theorem alone_long (k o s m1 c1 m2 c2 : Int) (A : Option Addr) (c : Nat) (L : List Mr) (Aq : Option Addr) (q : List Int) (cq : Nat) (w : World) (hrow : RowAt w (.slice A L.length c) L) (hs : ∀ m ∈ L, m.r.val.length ≤ 281474976710656 ∧ m.r.key.length ≤ 281474976710656) (hl : L.length ≤ maxLen) (hq : 8000 < q.length) :
    Calls Tryd.prog 8 #[wdV k o s m1 c1 m2 c2 (.slice A L.length c), .slice Aq q.length cq] w fun e w' => e = .returned (.bool true) ∧ Below w.heap.size w w' := by
  have hb0 : Below w.heap.size w (w.alloc (.cells (wdC k o s m1 c1 m2 c2 (.slice A L.length c)) 26)) := by (repeat' (first | (with_reducible exact Below.refl _ _) | (with_reducible assumption) | (with_reducible refine Below.trans ?_ (Below.mono (by with_reducible assumption) ?_)) | (with_reducible refine Below.alloc ?_ ?_ _) | (with_reducible refine Below.setCell ?_ ?_ _) | (with_reducible refine below_drewN ?_ _) | (with_reducible refine Below.drew ?_) | go_size))
  have HH := Lib.hid (law_heavy17 k o s m1 c1 m2 c2 A c L _ (hrow.below hb0) hs hl)
  have HB0 := Lib.hid hb0
  have d1 : decide ((8000 : Int) < (q.length : Int)) = true := by simp; omega
  clear hrow hs hl hb0 hq
  go_enter Tryd.func8, Tryd.ntmps8
  go_wp2_with fail
  refine HH.out.mono ?_; rintro e w1 ⟨⟨b, rfl, _⟩, k1⟩
  have HB1 := Lib.hid (HB0.out.trans (k1.mono HB0.out.size))
  clear k1 HH
  cases b
  all_goals
    go_wp2
    go_ret
    exact ⟨rfl, HB1.out⟩
set_option maxRecDepth 100000 in
set_option maxHeartbeats 8000000 in
theorem alone_no (k o s m1 c1 m2 c2 : Int) (A : Option Addr) (c : Nat) (L : List Mr) (Aq : Option Addr) (q : List Int) (cq : Nat) (w : World) (ht : Nib w) (hrow : RowAt w (.slice A L.length c) L) (hs : ∀ m ∈ L, m.r.val.length ≤ 281474976710656 ∧ m.r.key.length ≤ 281474976710656) (hl : L.length ≤ maxLen) (hkb : ∀ m ∈ L, isBy m.r.key ∧ isBy m.r.val) (hq : q.length ≤ 8000) (hok : okW (wdOf k o s m1 c1 m2 c2 L) = false) :
    Calls Tryd.prog 8 #[wdV k o s m1 c1 m2 c2 (.slice A L.length c), .slice Aq q.length cq] w fun e w' => e = .returned (.bool true) ∧ Below w.heap.size w w' := by
  have hb0 : Below w.heap.size w (w.alloc (.cells (wdC k o s m1 c1 m2 c2 (.slice A L.length c)) 26)) := by (repeat' (first | (with_reducible exact Below.refl _ _) | (with_reducible assumption) | (with_reducible refine Below.trans ?_ (Below.mono (by with_reducible assumption) ?_)) | (with_reducible refine Below.alloc ?_ ?_ _) | (with_reducible refine Below.setCell ?_ ?_ _) | (with_reducible refine below_drewN ?_ _) | (with_reducible refine Below.drew ?_) | go_size))
  have HH := Lib.hid (law_heavy17 k o s m1 c1 m2 c2 A c L _ (hrow.below hb0) hs hl)
  have HB0 := Lib.hid hb0
  have d1 : decide ((8000 : Int) < (q.length : Int)) = false := by simp; omega
  have X0 := Lib.hid (Wd8.new w 26 k o s m1 c1 m2 c2 (.slice A L.length c))
  have HE := Lib.hid (fun (W : World) (q : Below w.heap.size w W) (h4 : L.length ≤ 400) => wd_enc_no k o s m1 c1 m2 c2 A c L W (hrow.below q) (fun m hm => (hkb m hm).1) (by omega) hok)
  have HI := Lib.hid (fun (W : World) (q : Below w.heap.size w W) (h4 : L.length ≤ 400) => ref17_is k o s m1 c1 m2 c2 A c L W (hrow.below q) (fun m hm => (hkb m hm).1) (by omega))
  rw [hok] at HI
  have HT := Lib.hid (fun (W : World) (q : Below w.heap.size w W) => ht.below q)
  clear hrow hs hl hb0 hkb ht hok hq
  go_enter Tryd.func8, Tryd.ntmps8
  go_wp2_with fail
  refine HH.out.mono ?_; rintro e w1 ⟨⟨b, rfl, h4⟩, k1⟩
  have HB1 := Lib.hid (HB0.out.trans (k1.mono HB0.out.size))
  have HX1 := Lib.hid (X0.out.below k1)
  have H4 := Lib.hid h4
  clear k1 HH h4
  cases b
  rotate_left
  · go_wp2
    go_ret
    exact ⟨rfl, HB1.out⟩
  obtain ⟨x0, x1, x2, x3, x4, x5, x6, x7, xlt⟩ := HX1.out
  go_wp2_with fail
  refine (HE.out w1 HB1.out (H4.out (by first | rfl | trivial))).mono ?_; rintro e w2 ⟨rfl, k2⟩
  have HB2 := Lib.hid (HB1.out.trans (k2.mono HB1.out.size))
  obtain ⟨y0, y1, y2, y3, y4, y5, y6, y7, ylt⟩ := HX1.out.below k2
  clear k2 HE x0 x1 x2 x3 x4 x5 x6 x7 xlt HX1
  go_wp2_with fail
  refine (HI.out w2 HB2.out (H4.out (by first | rfl | trivial))).mono ?_; rintro e w3 ⟨rfl, k3⟩
  have HB3 := Lib.hid (HB2.out.trans (k3.mono HB2.out.size))
  clear k3 HI y0 y1 y2 y3 y4 y5 y6 y7 ylt
  go_wp2_with fail
  refine (known17 _ (HT.out _ HB3.out)).mono ?_; rintro e w4 ⟨rfl, k4⟩
  have HB4 := Lib.hid (HB3.out.trans (k4.mono HB3.out.size))
  clear k4
  go_wp2
  go_ret
  exact ⟨rfl, HB4.out⟩
set_option maxRecDepth 100000 in
set_option maxHeartbeats 8000000 in
theorem alone_more (k o s m1 c1 m2 c2 : Int) (A : Option Addr) (c : Nat) (L : List Mr) (Aq : Option Addr) (q : List Int) (cq : Nat) (w : World) (ht : Nib w) (hrow : RowAt w (.slice A L.length c) L) (hs : ∀ m ∈ L, m.r.val.length ≤ 281474976710656 ∧ m.r.key.length ≤ 281474976710656) (hl : L.length ≤ maxLen) (hat : ∀ m ∈ L, m.At (fun _ => True) w) (hkb : ∀ m ∈ L, isBy m.r.key ∧ isBy m.r.val) (hq : q.length ≤ 8000) (hq0 : 0 < q.length) (hqb : ByL w Aq q) (hqy : isBy q) (hok : okW (wdOf k o s m1 c1 m2 c2 L) = true) :
    Calls Tryd.prog 8 #[wdV k o s m1 c1 m2 c2 (.slice A L.length c), .slice Aq q.length cq] w fun e w' => e = .returned (.bool true) ∧ Below w.heap.size w w' := by
  obtain ⟨i0, hi0, hz0, hz1, hz2⟩ := info_parts u8_info
  have hb0 : Below w.heap.size w (w.alloc (.cells (wdC k o s m1 c1 m2 c2 (.slice A L.length c)) 26)) := by (repeat' (first | (with_reducible exact Below.refl _ _) | (with_reducible assumption) | (with_reducible refine Below.trans ?_ (Below.mono (by with_reducible assumption) ?_)) | (with_reducible refine Below.alloc ?_ ?_ _) | (with_reducible refine Below.setCell ?_ ?_ _) | (with_reducible refine below_drewN ?_ _) | (with_reducible refine Below.drew ?_) | go_size))
  have HH := Lib.hid (law_heavy17 k o s m1 c1 m2 c2 A c L _ (hrow.below hb0) hs hl)
  have HB0 := Lib.hid hb0
  have d1 : decide ((8000 : Int) < (q.length : Int)) = false := by simp; omega
  have d2 : ((q.length : Int) == 0) = false := by rw [beq_eq_false_iff_ne]; omega
  have d3 : (q.length == 0) = false := by rw [beq_eq_false_iff_ne]; omega
  have d4 : ¬ q.length = 0 := by omega
  obtain ⟨ad, rfl⟩ : ∃ ad, Aq = some ad := by
    obtain ⟨B, O, e, _⟩ := hqb hq0
    exact ⟨_, e⟩
  have HQ := Lib.hid hqb
  have HQY := Lib.hid hqy
  have X0 := Lib.hid (Wd8.new w 26 k o s m1 c1 m2 c2 (.slice A L.length c))
  have HE := Lib.hid (fun (W : World) (q : Below w.heap.size w W) (h4 : L.length ≤ 400) => wd_enc k o s m1 c1 m2 c2 A c L W (ht.below q) (hrow.below q) (fun m hm => (hat m hm).below q) hkb (by omega) hok)
  have HBD := Lib.hid (encW_bd hok)
  have hbk : isBy (encW (wdOf k o s m1 c1 m2 c2 L)) := encW_by (fun r hr => by
    obtain ⟨m, hm, rfl⟩ := List.mem_map.1 hr
    exact hkb m hm)
  have HBK := Lib.hid hbk
  have HFY := Lib.hid (frE_by hbk)
  have HOWN := Lib.hid (wd_dec_own hok hbk)
  have HT := Lib.hid (fun (W : World) (q : Below w.heap.size w W) => ht.below q)
  clear hrow hs hl hb0 hkb ht hok hbk hat hqb hqy
  go_enter Tryd.func8, Tryd.ntmps8
  go_wp2_with fail
  refine HH.out.mono ?_; rintro e w1 ⟨⟨b, rfl, h4⟩, k1⟩
  have HB1 := Lib.hid (HB0.out.trans (k1.mono HB0.out.size))
  have HX1 := Lib.hid (X0.out.below k1)
  have H4 := Lib.hid h4
  clear k1 HH h4
  cases b
  rotate_left
  · go_wp2
    go_ret
    exact ⟨rfl, HB1.out⟩
  obtain ⟨x0, x1, x2, x3, x4, x5, x6, x7, xlt⟩ := HX1.out
  go_wp2_with fail
  refine (HE.out w1 HB1.out (H4.out (by first | rfl | trivial))).mono ?_; rintro e w2 ⟨⟨g, cap, rfl, hr⟩, k2⟩
  have HB2 := Lib.hid (HB1.out.trans (k2.mono HB1.out.size))
  have hr' : Row8 w1.heap.size w2 g cap (12 + (encW (wdOf k o s m1 c1 m2 c2 L)).length) (frE (encW (wdOf k o s m1 c1 m2 c2 L))) := hr
  clear hr k2 HE x0 x1 x2 x3 x4 x5 x6 x7 xlt HX1 X0
  generalize encW (wdOf k o s m1 c1 m2 c2 L) = E at *
  obtain ⟨n, hn⟩ : ∃ n, 12 + E.length = n := ⟨_, rfl⟩
  rw [hn] at hr' ⊢
  have hbd := HBD.out
  have hnp : 0 < n := by omega
  have hnm : n ≤ 100012 := by omega
  have HBA := Lib.hid (HB2.out.alloc HB2.out.size (.cells #[] 5))
  have hmade := World.ownsRow_made (base := w.heap.size) (e := 5) (size := 1) w2 #[] 0 HB2.out.size (Nat.zero_le _) rfl
  have hsrc := (hr'.by_.alloc (.cells #[] 5)).cells
  have HR2 := Lib.hid hr'
  have z2 := HB2.out.size
  have hfl : (frE E).length = n := hr'.len
  clear hn hbd hr'
  go_wp2_with (first | (at_builtin; refine wpList_append_lies _ rfl (.tmp 30) (.tmp 31) _ rfl w.heap.size 5 i0 _ 1 1 Tryd.underlying28 hi0 hz0 hz1 hz2 rfl (by decide) (.slice (some ⟨w2.heap.size, 0, none⟩) 0 0) 0 [] rfl hmade ⟨g, 0, none⟩ n cap (bC (frE E)) rfl (by rw [bC_len, hfl]; omega) hsrc (bC_one _) hnp (by unfold maxLen; omega) (by omega) (by simp; omega) _ rfl ?_; intro g1 cap1 w3 hown0 hg1 hat1 hlt1; have HR3 : Hid (w3.ownsRow w.heap.size 5 1 (.slice (some ⟨g1, 0, none⟩) n cap1) n (bC (frE E))) := Lib.hid (by simpa using hown0); have HB3 := Lib.hid (HBA.out.grown hg1 HBA.out.size (fun k hk => by simp [Value.ownBlock] at hk; omega)); have hrow3 := HR3.out; have hsrc3 := (HQ.out.below HB3.out).cells; have z3 := HB3.out.size; clear hown0 hg1 hat1 hlt1 hmade hsrc HBA) | (at_builtin; refine wpList_append_lies _ rfl (.tmp 32) (.tmp 33) _ rfl w.heap.size 5 i0 _ 1 1 Tryd.underlying28 hi0 hz0 hz1 hz2 rfl (by decide) (.slice (some ⟨g1, 0, none⟩) n cap1) n _ rfl hrow3 ad q.length cq (bC q) rfl (by rw [bC_len]; omega) hsrc3 (bC_one _) hq0 (by unfold maxLen; omega) (by first | omega | (simp; omega)) (by first | omega | (simp; omega)) _ rfl ?_; intro g2 cap2 w4 hown4 hg4 hat4 hlt4))
  have HB4 := Lib.hid (HB3.out.grown hg4 HB3.out.size (fun k hk => (World.ownsRow.lt hrow3 k hk).1))
  have HR4 : Hid (Row8 w.heap.size w4 g2 cap2 (n + q.length) (frE E ++ q)) := Lib.hid ⟨by rw [bC_append]; exact hown4, by rw [List.length_append, hfl]⟩
  have HD := Lib.hid (wd_dec_no (some ⟨g2, 0, none⟩) (frE E ++ q) cap2 w4 (HT.out _ HB4.out) HR4.out.by_ (isBy_append HFY.out HQY.out) (by rw [HR4.out.len]; omega) (by rw [HR4.out.len]; exact HR4.out.cap_le.1) HR4.out.cap_le.2 (by rw [frO_more HBK.out (by have := HBD.out.2; omega) hq0]; decide))
  rw [HR4.out.len, frO_more HBK.out (by have := HBD.out.2; omega) hq0] at HD
  clear hown4 hg4 hat4 hlt4 hrow3 hsrc3 HR3 HR4
  go_wp2_with fail
  refine HD.out.mono ?_; rintro e w5 ⟨hno, k5⟩
  have he : e = _ := hno
  subst he
  have HB5 := Lib.hid (HB4.out.trans (k5.mono HB4.out.size))
  clear k5 HD hno
  go_wp2_with fail
  refine (known17 _ (HT.out _ (HB5.out.alloc HB5.out.size _))).mono ?_; rintro e w6 ⟨rfl, k6⟩
  have HB6 := Lib.hid ((HB5.out.alloc HB5.out.size _).trans (k6.mono (HB5.out.alloc HB5.out.size _).size))
  clear k6
  go_wp2
  go_ret
  exact ⟨rfl, HB6.out⟩
end Go.Proofs.YtlgnjjjbajfjaaaDoor
namespace Go.Proofs.YtlgnjjjbajfjaaaDoor
open Go.RowKit Go.Sort

set_option maxRecDepth 100000 in
set_option maxHeartbeats 8000000 in
theorem alone_own (k o s m1 c1 m2 c2 : Int) (A : Option Addr) (c : Nat) (L : List Mr) (Aq : Option Addr) (cq : Nat) (w : World) (ht : Nib w) (hrow : RowAt w (.slice A L.length c) L) (hs : ∀ m ∈ L, m.r.val.length ≤ 281474976710656 ∧ m.r.key.length ≤ 281474976710656) (hl : L.length ≤ maxLen) (hat : ∀ m ∈ L, m.At (fun _ => True) w) (hkb : ∀ m ∈ L, isBy m.r.key ∧ isBy m.r.val) (hok : okW (wdOf k o s m1 c1 m2 c2 L) = true) :
    Calls Tryd.prog 8 #[wdV k o s m1 c1 m2 c2 (.slice A L.length c), .slice Aq 0 cq] w fun e w' => e = .returned (.bool true) ∧ Below w.heap.size w w' := by
  obtain ⟨i0, hi0, hz0, hz1, hz2⟩ := info_parts u8_info
  have hb0 : Below w.heap.size w (w.alloc (.cells (wdC k o s m1 c1 m2 c2 (.slice A L.length c)) 26)) := by (repeat' (first | (with_reducible exact Below.refl _ _) | (with_reducible assumption) | (with_reducible refine Below.trans ?_ (Below.mono (by with_reducible assumption) ?_)) | (with_reducible refine Below.alloc ?_ ?_ _) | (with_reducible refine Below.setCell ?_ ?_ _) | (with_reducible refine below_drewN ?_ _) | (with_reducible refine Below.drew ?_) | go_size))
  have HH := Lib.hid (law_heavy17 k o s m1 c1 m2 c2 A c L _ (hrow.below hb0) hs hl)
  have HB0 := Lib.hid hb0
  have X0 := Lib.hid (Wd8.new w 26 k o s m1 c1 m2 c2 (.slice A L.length c))
  have HE := Lib.hid (fun (W : World) (q : Below w.heap.size w W) (h4 : L.length ≤ 400) => wd_enc k o s m1 c1 m2 c2 A c L W (ht.below q) (hrow.below q) (fun m hm => (hat m hm).below q) hkb (by omega) hok)
  have HBD := Lib.hid (encW_bd hok)
  have hbk : isBy (encW (wdOf k o s m1 c1 m2 c2 L)) := encW_by (fun r hr => by
    obtain ⟨m, hm, rfl⟩ := List.mem_map.1 hr
    exact hkb m hm)
  have HBK := Lib.hid hbk
  have HFY := Lib.hid (frE_by hbk)
  have HOWN := Lib.hid (wd_dec_own hok hbk)
  have HT := Lib.hid (fun (W : World) (q : Below w.heap.size w W) => ht.below q)
  clear hrow hs hl hb0 hkb ht hok hbk hat
  have hld := empty_loads.1
  have hst := empty_loads.2
  have step : Aq = none ∨ ∃ ad, Aq = some ad := by cases Aq <;> simp
  rcases step with rfl | ⟨ad, rfl⟩
  all_goals
    go_enter Tryd.func8, Tryd.ntmps8
    go_wp2_with fail
    refine HH.out.mono ?_; rintro e w1 ⟨⟨b, rfl, h4⟩, k1⟩
    have HB1 := Lib.hid (HB0.out.trans (k1.mono HB0.out.size))
    have HX1 := Lib.hid (X0.out.below k1)
    have H4 := Lib.hid h4
    clear k1 HH h4
    cases b
    rotate_left
    · go_wp2
      go_ret
      exact ⟨rfl, HB1.out⟩
    obtain ⟨x0, x1, x2, x3, x4, x5, x6, x7, xlt⟩ := HX1.out
    go_wp2_with fail
    refine (HE.out w1 HB1.out (H4.out (by first | rfl | trivial))).mono ?_; rintro e w2 ⟨⟨g, cap, rfl, hr⟩, k2⟩
    have HB2 := Lib.hid (HB1.out.trans (k2.mono HB1.out.size))
    have hr' : Row8 w1.heap.size w2 g cap (12 + (encW (wdOf k o s m1 c1 m2 c2 L)).length) (frE (encW (wdOf k o s m1 c1 m2 c2 L))) := hr
    clear hr k2 HE x0 x1 x2 x3 x4 x5 x6 x7 xlt HX1 X0
    generalize encW (wdOf k o s m1 c1 m2 c2 L) = E at *
    obtain ⟨n, hn⟩ : ∃ n, 12 + E.length = n := ⟨_, rfl⟩
    rw [hn] at hr' ⊢
    have hbd := HBD.out
    have hnp : 0 < n := by omega
    have hnm : n ≤ 100012 := by omega
    have HBA := Lib.hid (HB2.out.alloc HB2.out.size (.cells #[] 5))
    have hmade := World.ownsRow_made (base := w.heap.size) (e := 5) (size := 1) w2 #[] 0 HB2.out.size (Nat.zero_le _) rfl
    have hsrc := (hr'.by_.alloc (.cells #[] 5)).cells
    have HR2 := Lib.hid hr'
    have z2 := HB2.out.size
    have hfl : (frE E).length = n := hr'.len
    clear hn hbd hr'
    go_wp2_with (at_builtin; refine wpList_append_lies _ rfl (.tmp 30) (.tmp 31) _ rfl w.heap.size 5 i0 _ 1 1 Tryd.underlying28 hi0 hz0 hz1 hz2 rfl (by decide) (.slice (some ⟨w2.heap.size, 0, none⟩) 0 0) 0 [] rfl hmade ⟨g, 0, none⟩ n cap (bC (frE E)) rfl (by rw [bC_len, hfl]; omega) hsrc (bC_one _) hnp (by unfold maxLen; omega) (by omega) (by simp; omega) _ rfl ?_; intro g1 cap1 w3 hown0 hg1 hat1 hlt1; have HR3 : Hid (Row8 w.heap.size w3 g1 cap1 n (frE E)) := Lib.hid ⟨by simpa using hown0, hfl⟩; have HB3 := Lib.hid (HBA.out.grown hg1 HBA.out.size (fun k hk => by simp [Value.ownBlock] at hk; omega)); have hcl := HR3.out.cap_le; have hcl1 : n ≤ cap1 := hcl.1; have hcl2 : decide (n ≤ cap1) = true := by simpa using hcl1)
    have HD := Lib.hid (wd_dec_ok (some ⟨g1, 0, none⟩) (frE E) cap1 w3 (HT.out _ HB3.out) HR3.out.by_ HFY.out (by rw [hfl]; omega) (by rw [hfl]; exact hcl.1) hcl.2 HOWN.out.1 HOWN.out.2.1 (by rw [HOWN.out.2.2]; intro h; cases h))
    rw [hfl] at HD
    clear hown0 hg1 hat1 hlt1 hmade hsrc HBA
    refine HD.out.mono ?_; rintro e w4 ⟨⟨k9, o9, s9, a9, b9, e9, f9, A9, l9, c9, rfl⟩, k4⟩
    have HB4 := Lib.hid (HB3.out.trans (k4.mono HB3.out.size))
    clear k4 HD
    go_wp2_with fail
    refine (known17 _ (HT.out _ (HB4.out.alloc HB4.out.size _))).mono ?_; rintro e w6 ⟨rfl, k6⟩
    have HB6 := Lib.hid ((HB4.out.alloc HB4.out.size _).trans (k6.mono (HB4.out.alloc HB4.out.size _).size))
    clear k6
    go_wp2
    go_ret
    exact ⟨rfl, HB6.out⟩
end Go.Proofs.YtlgnjjjbajfjaaaDoor
namespace Go.Proofs.YtlgnjjjbajfjaaaDoor
open Go.ChangeShapes Go.WideShapes Go.ChangeAt Go.RowKit Go.Joins Go.Deep

set_option maxRecDepth 100000 in
theorem open_bytes_arg {H : Type} {enc : TypeId × Value → H} {w : World} {base b0 : Nat} {r : Reach} {sp : Nat → Bool} {v : Value} {d : DataW H} {p : List MemPlace} (hv : Value.okWide Tryd.prog w r b0 28 v) (h : DataW.Trod enc Tryd.prog w base sp true 28 v d p) :
    ∃ (A : Option Addr) (l : List Int) (c : Nat), v = .slice A l.length c ∧ ByL w A l ∧ isBy l := by
  obtain ⟨a0, len, cap, rfl⟩ := okWide_slice Tryd.underlying28 hv
  obtain ⟨fuel, hf⟩ := h
  obtain ⟨A, l, c, hcs, _, _, hby, hb, _⟩ := open_bytes hf
  simp [Value.cells] at hcs
  obtain ⟨rfl, rfl, rfl⟩ := hcs
  exact ⟨_, l, _, rfl, hby, hb⟩
set_option maxRecDepth 100000 in
theorem wireAlone_contract (H : Type) (enc : TypeId × Value → H) (W : World) (base : Nat) (args : Array Value) (ds gs : List (DataW H)) (before : List MemPlace)
    (hval0 : ∀ (j : Nat) t v, Tryd.f8.params[j]? = some t → args[j]? = some v → Value.okWide Tryd.prog W .any base t v)
    (hW : DataW.Whole enc Tryd.prog Tryd.f8.params.toList Rows.wireAloneSpec.vars false W args.toList ds gs before)
    (hsz0 : (DataW.weightsEach Tryd.prog (Tryd.f8.params.toList ++ (OpenSpec.ofChange Rows.wireAloneSpec).bare.plain.varTypes Tryd.prog) (ds ++ gs)).all (· ≤ reachBytes) = true) (hL : laidMetH Tryd.prog Rows.wireAloneRow.laid W) (hS : W.ShapedOpen Tryd.prog) :
    Calls Tryd.prog 8 args W fun e W' => ∃ v, e = .returned v ∧ Rows.wireAloneSpec.post enc Tryd.prog Tryd.f8 false true false false W args v W' := by
  have hval : ∀ (j : Nat) t v, Tryd.f8.params[j]? = some t → args[j]? = some v → Value.okWide Tryd.prog W .any base t v := hval0
  have hsz := hsz0
  have hW' := hW
  obtain ⟨p, q, hA0, hV, rfl, hfz, hnd⟩ := hW
  have hA : DataW.TrodAll enc Tryd.prog W 0 (fun _ => true) true Tryd.f8.params.toList args.toList ds p := hA0
  rw [Tryd.params8] at hA hval hsz
  have hsame : (Rows.wireAloneSpec.fn H (ds ++ gs)).results = [.lit (.bool true)] ∧ (Rows.wireAloneSpec.fn H (ds ++ gs)).args = ds ∧ (Rows.wireAloneSpec.fn H (ds ++ gs)).vars = [] → ∀ W', Below W.heap.size W W' → Rows.wireAloneSpec.post enc Tryd.prog Tryd.f8 false true false false W args (.bool true) W' :=
    fun h W' hb => law_post (tb := 4) hW' law_laid (by kernel_rfl) rfl Tryd.underlying4 h.1 h.2.1 rfl h.2.2 hb
  obtain ⟨v0, vs0, d0, ds0, p0, q0, hargs, rfl, rfl, h0, r0⟩ := trodAll_cons hA
  obtain ⟨v1, vs1, d1, ds1, p1, q1, rfl, rfl, rfl, h1, r1⟩ := trodAll_cons r0
  obtain ⟨rfl, rfl, rfl⟩ := trodAll_nil r1
  obtain rfl : args = #[v0, v1] := by cases args; simp_all
  obtain ⟨rfl, rfl⟩ := trodVars_none hV
  have hpost := hsame ⟨rfl, rfl, rfl⟩
  clear hsame hA0 hval0 hsz0
  obtain ⟨k, o, s, m1, c1, m2, c2, L, A, c, rfl, hmx, hrow, hin, hz⟩ := open_word (hval 0 26 v0 rfl rfl) h0
  obtain ⟨Aq, q, cq, rfl, hqb, hqy⟩ := open_bytes_arg (hval 1 28 v1 rfl rfl) h1
  have hk := hz reachBytes (sized_each (j := 0) hsz rfl rfl)
  unfold reachBytes at hk
  have ht : Nib W := nib_of_laid hL
  have hs : ∀ m ∈ L, m.r.val.length ≤ 281474976710656 ∧ m.r.key.length ≤ 281474976710656 := fun m hm => ⟨by have := (hk m hm).1; omega, by have := (hk m hm).2; omega⟩
  have hkb : ∀ m ∈ L, isBy m.r.key ∧ isBy m.r.val := fun m hm => ⟨(hin m hm).key, (hin m hm).val⟩
  have hat : ∀ m ∈ L, m.At (fun _ => True) W := fun m hm => (hin m hm).at_
  by_cases h8 : 8000 < q.length
  · exact (alone_long k o s m1 c1 m2 c2 A c L Aq q cq W hrow hs hmx h8).mono fun e W' ⟨he, hb⟩ => ⟨_, he, hpost W' hb⟩
  cases hOK : okW (wdOf k o s m1 c1 m2 c2 L)
  · exact (alone_no k o s m1 c1 m2 c2 A c L Aq q cq W ht hrow hs hmx hkb (by omega) hOK).mono fun e W' ⟨he, hb⟩ => ⟨_, he, hpost W' hb⟩
  by_cases h0q : 0 < q.length
  · exact (alone_more k o s m1 c1 m2 c2 A c L Aq q cq W ht hrow hs hmx hat hkb (by omega) h0q hqb hqy hOK).mono fun e W' ⟨he, hb⟩ => ⟨_, he, hpost W' hb⟩
  · obtain rfl : q = [] := List.length_eq_zero_iff.1 (by omega)
    exact (alone_own k o s m1 c1 m2 c2 A c L Aq cq W ht hrow hs hmx hat hkb hOK).mono fun e W' ⟨he, hb⟩ => ⟨_, he, hpost W' hb⟩
theorem wireAlone_reads (os : Os) {H : Type} (enc : TypeId × Value → H) : (DataW.whole enc Tryd.prog ((layW1 os).forCall (fun _ _ => 0) ⟨#[], #[wdV 0 0 0 0 0 0 0 (.slice none 0 0), .slice none 0 0], []⟩).memory Tryd.f8.params.toList Rows.wireAloneSpec.vars false #[wdV 0 0 0 0 0 0 0 (.slice none 0 0), .slice none 0 0].toList 8).isSome = true := by kernel_rfl
theorem wireAlone_met (os : Os) : laidMet Tryd.prog Rows.wireAloneRow.laid ((layW1 os).forCall (fun _ _ => 0) ⟨#[], #[wdV 0 0 0 0 0 0 0 (.slice none 0 0), .slice none 0 0], []⟩).memory := laidMet_of_run' 8 (by kernel_rfl) (by kernel_rfl)
set_option maxRecDepth 100000 in
theorem wireAlone_lifted (os : Os) (started : os.Started) (H : Type) (enc : TypeId × Value → H) (F : Stop.Interp) :
    ReturnsInHanded {} Tryd.checked os 8 .any ((OpenSpec.ofChange Rows.wireAloneSpec).preRow enc Tryd.prog Tryd.f8 Rows.wireAloneRow.domain false Rows.wireAloneRow.laid) (((OpenSpec.ofChange Rows.wireAloneSpec).at F).post enc Tryd.prog Tryd.f8 false true false false) := by
  obtain ⟨x, hx⟩ := Option.isSome_iff_exists.1 (wireAlone_reads os enc)
  refine returnsInHanded_of_row (C := Tryd.checked) (s := OpenSpec.ofChange Rows.wireAloneSpec) law_own started (by kernel_rfl) Tryd.func8
    (witness_row_at (enc := enc) (C := Tryd.checked) false (layW1 os) #[wdV 0 0 0 0 0 0 0 (.slice none 0 0), .slice none 0 0] rfl (by kernel_rfl) (by kernel_rfl) (by kernel_rfl)
      (OpenSpec.preRow_of_cond 8 hx (by rfl) (fun k hk => by cases hk) (by kernel_rfl) (wireAlone_met os))) ?_
  intro W base args ds gs before hval hW _ _ hsz hL hS _
  exact wireAlone_contract H enc W base args ds gs before hval hW hsz hL hS
theorem wireAlone_said : Rows.WireAloneSaid :=
  OpenClaim.holds_of_cond 8 Tryd.f8 rfl rfl rfl rfl rfl rfl rfl ⟨rfl, rfl, rfl, rfl, rfl⟩ rfl rfl rfl rfl rfl (by kernel_rfl) Tryd.func8 (by kernel_rfl)
    (of_decide_eq_true (by kernel_rfl)) (by unfold Func.isWrapper; first | (rw [if_pos (by decide +kernel)]; kernel_rfl) | (rw [if_neg (by decide +kernel)]; exact ⟨rfl, rfl⟩))
    (fun os started H enc _ F => by rw [OpenClaim.pre_eq_preRow]; exact wireAlone_lifted os started H enc F)
theorem wireAlone_holds : Rows.WireAloneCardSaid :=
  Claim7.holds_tied_plain_at .later [] _ _ _ _ wireAlone_said (fun _ h => by cases h) (by kernel_rfl) (fun _ h => by cases h) wireAlone_row_tie rfl ⟨rfl, rfl⟩ (by kernel_rfl) rfl (plain_of (f0 := 8) (fn0 := Tryd.f8) (by kernel_rfl) Tryd.func8 (by kernel_rfl) (by kernel_rfl)) (by kernel_rfl)
end Go.Proofs.YtlgnjjjbajfjaaaDoor
