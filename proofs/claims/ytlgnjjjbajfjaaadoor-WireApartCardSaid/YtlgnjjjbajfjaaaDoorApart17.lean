/- Stage 17: WireApart walked (written by gen/apart17.py). -/
import Derived.Test.YtlgnjjjbajfjaaaDoorRef17
import Derived.Test.YtlgnjjjbajfjaaaDoorKnown17
import Derived.Test.YtlgnjjjbajfjaaaDoorLSame14
import Derived.Test.YtlgnjjjbajfjaaaDoorRecs17
set_option linter.unusedSimpArgs false
set_option linter.unusedVariables false
namespace Go.Proofs.YtlgnjjjbajfjaaaDoor
open Go.RowKit Go.Sort

theorem frE_inj {p q : List Int} (hp : isBy p) (hq : isBy q) (hpl : p.length ≤ 262144) (hql : q.length ≤ 262144) (h : frE p = frE q) : p = q := by
  rw [← (frO_back hp hpl).2, h, (frO_back hq hql).2]
theorem encW_bw {L : List Mr} {k o s m1 c1 m2 c2 : Int} (hkb : ∀ m ∈ L, isBy m.r.key ∧ isBy m.r.val) : isBy (encW (wdOf k o s m1 c1 m2 c2 L)) := encW_by (fun r hr => by
  obtain ⟨m, hm, rfl⟩ := List.mem_map.1 hr
  exact hkb m hm)
set_option maxRecDepth 100000 in
set_option maxHeartbeats 8000000 in
theorem apart_nn (k o s m1 c1 m2 c2 k' o' s' m1' c1' m2' c2' : Int) (A A' : Option Addr) (c c' : Nat) (L L' : List Mr) (w : World) (ht : Nib w) (hrow : RowAt w (.slice A L.length c) L) (hrow' : RowAt w (.slice A' L'.length c') L') (hat : ∀ m ∈ L, m.At (fun _ => True) w) (hat' : ∀ m ∈ L', m.At (fun _ => True) w) (hkb : ∀ m ∈ L, isBy m.r.key ∧ isBy m.r.val) (hkb' : ∀ m ∈ L', isBy m.r.key ∧ isBy m.r.val) (hs : ∀ m ∈ L, m.r.val.length ≤ 281474976710656 ∧ m.r.key.length ≤ 281474976710656) (hs' : ∀ m ∈ L', m.r.val.length ≤ 281474976710656 ∧ m.r.key.length ≤ 281474976710656) (hl : L.length ≤ maxLen) (hl' : L'.length ≤ maxLen) (hok : okW (wdOf k o s m1 c1 m2 c2 L) = false) (hok' : okW (wdOf k' o' s' m1' c1' m2' c2' L') = false) :
    Calls Tryd.prog 7 #[wdV k o s m1 c1 m2 c2 (.slice A L.length c), wdV k' o' s' m1' c1' m2' c2' (.slice A' L'.length c')] w fun e w' => e = .returned (.bool true) ∧ Below w.heap.size w w' := by
  have hb0 : Below w.heap.size w ((w.alloc (.cells (wdC k o s m1 c1 m2 c2 (.slice A L.length c)) 26)).alloc (.cells (wdC k' o' s' m1' c1' m2' c2' (.slice A' L'.length c')) 26)) := by (repeat' (first | (with_reducible exact Below.refl _ _) | (with_reducible assumption) | (with_reducible refine Below.trans ?_ (Below.mono (by with_reducible assumption) ?_)) | (with_reducible refine Below.alloc ?_ ?_ _) | (with_reducible refine Below.setCell ?_ ?_ _) | (with_reducible refine below_drewN ?_ _) | (with_reducible refine Below.drew ?_) | go_size))
  have HH := Lib.hid (law_heavy17 k o s m1 c1 m2 c2 A c L _ (hrow.below hb0) hs hl)
  have HH2 := Lib.hid (fun (W : World) (q : Below w.heap.size w W) => law_heavy17 k' o' s' m1' c1' m2' c2' A' c' L' W (hrow'.below q) hs' hl')
  have HB0 := Lib.hid hb0
  have X0 : Hid (Wd8 ((w.alloc (.cells (wdC k o s m1 c1 m2 c2 (.slice A L.length c)) 26)).alloc (.cells (wdC k' o' s' m1' c1' m2' c2' (.slice A' L'.length c')) 26)) w.heap.size k o s m1 c1 m2 c2 (.slice A L.length c)) := Lib.hid ((Wd8.new w 26 k o s m1 c1 m2 c2 (.slice A L.length c)).below ((Below.refl _ _).alloc (Nat.le_refl _) _))
  have Y0 : Hid (Wd8 ((w.alloc (.cells (wdC k o s m1 c1 m2 c2 (.slice A L.length c)) 26)).alloc (.cells (wdC k' o' s' m1' c1' m2' c2' (.slice A' L'.length c')) 26)) (w.heap.size + 1) k' o' s' m1' c1' m2' c2' (.slice A' L'.length c')) := Lib.hid (by
    have h := Wd8.new (w.alloc (.cells (wdC k o s m1 c1 m2 c2 (.slice A L.length c)) 26)) 26 k' o' s' m1' c1' m2' c2' (.slice A' L'.length c')
    rw [World.size_alloc] at h
    exact h)
  have HE1 := Lib.hid (fun (W : World) (q : Below w.heap.size w W) (h4 : L.length ≤ 400) => wd_enc_no k o s m1 c1 m2 c2 A c L W (hrow.below q) (fun m hm => (hkb m hm).1) (by omega) hok)
  have HE2 := Lib.hid (fun (W : World) (q : Below w.heap.size w W) (h4 : L'.length ≤ 400) => wd_enc_no k' o' s' m1' c1' m2' c2' A' c' L' W (hrow'.below q) (fun m hm => (hkb' m hm).1) (by omega) hok')
  have HI1 := Lib.hid (fun (W : World) (q : Below w.heap.size w W) (h4 : L.length ≤ 400) => ref17_is k o s m1 c1 m2 c2 A c L W (hrow.below q) (fun m hm => (hkb m hm).1) (by omega))
  have HI2 := Lib.hid (fun (W : World) (q : Below w.heap.size w W) (h4 : L'.length ≤ 400) => ref17_is k' o' s' m1' c1' m2' c2' A' c' L' W (hrow'.below q) (fun m hm => (hkb' m hm).1) (by omega))
  rw [hok] at HI1
  rw [hok'] at HI2
  have HT := Lib.hid (fun (W : World) (q : Below w.heap.size w W) => ht.below q)
  clear hrow hrow' hs hs' hl hl' hb0 hkb hkb' ht hok hok' hat hat'
  go_enter Tryd.func7, Tryd.ntmps7
  go_wp2_with fail
  refine HH.out.mono ?_; rintro e w1 ⟨⟨b, rfl, h4⟩, k1⟩
  have HB1 := Lib.hid (HB0.out.trans (k1.mono HB0.out.size))
  have HX1 := Lib.hid (X0.out.below k1)
  have HY1 := Lib.hid (Y0.out.below k1)
  have H4 := Lib.hid h4
  clear k1 HH h4
  cases b
  rotate_left
  · go_wp2
    go_ret
    exact ⟨rfl, HB1.out⟩
  obtain ⟨x0, x1, x2, x3, x4, x5, x6, x7, xlt⟩ := HX1.out
  obtain ⟨y0, y1, y2, y3, y4, y5, y6, y7, ylt⟩ := HY1.out
  go_wp2_with fail
  refine (HH2.out w1 HB1.out).mono ?_; rintro e w2 ⟨⟨b, rfl, h5⟩, k2⟩
  have HB2 := Lib.hid (HB1.out.trans (k2.mono HB1.out.size))
  have HX2 := Lib.hid (HX1.out.below k2)
  have HY2 := Lib.hid (HY1.out.below k2)
  have H5 := Lib.hid h5
  clear k2 HH2 h5 x0 x1 x2 x3 x4 x5 x6 x7 xlt y0 y1 y2 y3 y4 y5 y6 y7 ylt HX1 HY1 X0 Y0
  cases b
  rotate_left
  · go_wp2
    go_ret
    exact ⟨rfl, HB2.out⟩
  obtain ⟨x0, x1, x2, x3, x4, x5, x6, x7, xlt⟩ := HX2.out
  obtain ⟨y0, y1, y2, y3, y4, y5, y6, y7, ylt⟩ := HY2.out
  go_wp2_with fail
  refine (HE1.out w2 HB2.out (H4.out (by first | rfl | trivial))).mono ?_; rintro e w3 ⟨rfl, k3⟩
  have HB3 := Lib.hid (HB2.out.trans (k3.mono HB2.out.size))
  have HX3 := Lib.hid (HX2.out.below k3)
  have HY3 := Lib.hid (HY2.out.below k3)
  clear k3 HE1 x0 x1 x2 x3 x4 x5 x6 x7 xlt y0 y1 y2 y3 y4 y5 y6 y7 ylt HX2 HY2
  obtain ⟨x0, x1, x2, x3, x4, x5, x6, x7, xlt⟩ := HX3.out
  obtain ⟨y0, y1, y2, y3, y4, y5, y6, y7, ylt⟩ := HY3.out
  go_wp2_with fail
  refine (HE2.out w3 HB3.out (H5.out (by first | rfl | trivial))).mono ?_; rintro e w4 ⟨rfl, k4⟩
  have HB4 := Lib.hid (HB3.out.trans (k4.mono HB3.out.size))
  have HX4 := Lib.hid (HX3.out.below k4)
  have HY4 := Lib.hid (HY3.out.below k4)
  clear k4 HE2 x0 x1 x2 x3 x4 x5 x6 x7 xlt y0 y1 y2 y3 y4 y5 y6 y7 ylt HX3 HY3
  obtain ⟨x0, x1, x2, x3, x4, x5, x6, x7, xlt⟩ := HX4.out
  obtain ⟨y0, y1, y2, y3, y4, y5, y6, y7, ylt⟩ := HY4.out
  go_wp2_with fail
  refine (HI1.out w4 HB4.out (H4.out (by first | rfl | trivial))).mono ?_; rintro e w5 ⟨rfl, k5⟩
  have HB5 := Lib.hid (HB4.out.trans (k5.mono HB4.out.size))
  have HX5 := Lib.hid (HX4.out.below k5)
  have HY5 := Lib.hid (HY4.out.below k5)
  clear k5 HI1 x0 x1 x2 x3 x4 x5 x6 x7 xlt y0 y1 y2 y3 y4 y5 y6 y7 ylt HX4 HY4
  obtain ⟨x0, x1, x2, x3, x4, x5, x6, x7, xlt⟩ := HX5.out
  obtain ⟨y0, y1, y2, y3, y4, y5, y6, y7, ylt⟩ := HY5.out
  go_wp2_with fail
  refine (HI2.out w5 HB5.out (H5.out (by first | rfl | trivial))).mono ?_; rintro e w6 ⟨rfl, k6⟩
  have HB6 := Lib.hid (HB5.out.trans (k6.mono HB5.out.size))
  clear k6 HI2 x0 x1 x2 x3 x4 x5 x6 x7 xlt y0 y1 y2 y3 y4 y5 y6 y7 ylt HX5 HY5
  go_wp2_with fail
  refine (known17 _ (HT.out _ HB6.out)).mono ?_; rintro e w7 ⟨rfl, k7⟩
  have HB7 := Lib.hid (HB6.out.trans (k7.mono HB6.out.size))
  clear k7
  go_wp2
  go_ret
  exact ⟨rfl, HB7.out⟩
set_option maxRecDepth 100000 in
set_option maxHeartbeats 8000000 in
theorem apart_ny (k o s m1 c1 m2 c2 k' o' s' m1' c1' m2' c2' : Int) (A A' : Option Addr) (c c' : Nat) (L L' : List Mr) (w : World) (ht : Nib w) (hrow : RowAt w (.slice A L.length c) L) (hrow' : RowAt w (.slice A' L'.length c') L') (hat : ∀ m ∈ L, m.At (fun _ => True) w) (hat' : ∀ m ∈ L', m.At (fun _ => True) w) (hkb : ∀ m ∈ L, isBy m.r.key ∧ isBy m.r.val) (hkb' : ∀ m ∈ L', isBy m.r.key ∧ isBy m.r.val) (hs : ∀ m ∈ L, m.r.val.length ≤ 281474976710656 ∧ m.r.key.length ≤ 281474976710656) (hs' : ∀ m ∈ L', m.r.val.length ≤ 281474976710656 ∧ m.r.key.length ≤ 281474976710656) (hl : L.length ≤ maxLen) (hl' : L'.length ≤ maxLen) (hok : okW (wdOf k o s m1 c1 m2 c2 L) = false) (hok' : okW (wdOf k' o' s' m1' c1' m2' c2' L') = true) :
    Calls Tryd.prog 7 #[wdV k o s m1 c1 m2 c2 (.slice A L.length c), wdV k' o' s' m1' c1' m2' c2' (.slice A' L'.length c')] w fun e w' => e = .returned (.bool true) ∧ Below w.heap.size w w' := by
  have hb0 : Below w.heap.size w ((w.alloc (.cells (wdC k o s m1 c1 m2 c2 (.slice A L.length c)) 26)).alloc (.cells (wdC k' o' s' m1' c1' m2' c2' (.slice A' L'.length c')) 26)) := by (repeat' (first | (with_reducible exact Below.refl _ _) | (with_reducible assumption) | (with_reducible refine Below.trans ?_ (Below.mono (by with_reducible assumption) ?_)) | (with_reducible refine Below.alloc ?_ ?_ _) | (with_reducible refine Below.setCell ?_ ?_ _) | (with_reducible refine below_drewN ?_ _) | (with_reducible refine Below.drew ?_) | go_size))
  have HH := Lib.hid (law_heavy17 k o s m1 c1 m2 c2 A c L _ (hrow.below hb0) hs hl)
  have HH2 := Lib.hid (fun (W : World) (q : Below w.heap.size w W) => law_heavy17 k' o' s' m1' c1' m2' c2' A' c' L' W (hrow'.below q) hs' hl')
  have HB0 := Lib.hid hb0
  have X0 : Hid (Wd8 ((w.alloc (.cells (wdC k o s m1 c1 m2 c2 (.slice A L.length c)) 26)).alloc (.cells (wdC k' o' s' m1' c1' m2' c2' (.slice A' L'.length c')) 26)) w.heap.size k o s m1 c1 m2 c2 (.slice A L.length c)) := Lib.hid ((Wd8.new w 26 k o s m1 c1 m2 c2 (.slice A L.length c)).below ((Below.refl _ _).alloc (Nat.le_refl _) _))
  have Y0 : Hid (Wd8 ((w.alloc (.cells (wdC k o s m1 c1 m2 c2 (.slice A L.length c)) 26)).alloc (.cells (wdC k' o' s' m1' c1' m2' c2' (.slice A' L'.length c')) 26)) (w.heap.size + 1) k' o' s' m1' c1' m2' c2' (.slice A' L'.length c')) := Lib.hid (by
    have h := Wd8.new (w.alloc (.cells (wdC k o s m1 c1 m2 c2 (.slice A L.length c)) 26)) 26 k' o' s' m1' c1' m2' c2' (.slice A' L'.length c')
    rw [World.size_alloc] at h
    exact h)
  have HE1 := Lib.hid (fun (W : World) (q : Below w.heap.size w W) (h4 : L.length ≤ 400) => wd_enc_no k o s m1 c1 m2 c2 A c L W (hrow.below q) (fun m hm => (hkb m hm).1) (by omega) hok)
  have HE2 := Lib.hid (fun (W : World) (q : Below w.heap.size w W) (h4 : L'.length ≤ 400) => wd_enc k' o' s' m1' c1' m2' c2' A' c' L' W (ht.below q) (hrow'.below q) (fun m hm => (hat' m hm).below q) hkb' (by omega) hok')
  have HI1 := Lib.hid (fun (W : World) (q : Below w.heap.size w W) (h4 : L.length ≤ 400) => ref17_is k o s m1 c1 m2 c2 A c L W (hrow.below q) (fun m hm => (hkb m hm).1) (by omega))
  have HI2 := Lib.hid (fun (W : World) (q : Below w.heap.size w W) (h4 : L'.length ≤ 400) => ref17_is k' o' s' m1' c1' m2' c2' A' c' L' W (hrow'.below q) (fun m hm => (hkb' m hm).1) (by omega))
  rw [hok] at HI1
  rw [hok'] at HI2
  have HT := Lib.hid (fun (W : World) (q : Below w.heap.size w W) => ht.below q)
  clear hrow hrow' hs hs' hl hl' hb0 hkb hkb' ht hok hok' hat hat'
  go_enter Tryd.func7, Tryd.ntmps7
  go_wp2_with fail
  refine HH.out.mono ?_; rintro e w1 ⟨⟨b, rfl, h4⟩, k1⟩
  have HB1 := Lib.hid (HB0.out.trans (k1.mono HB0.out.size))
  have HX1 := Lib.hid (X0.out.below k1)
  have HY1 := Lib.hid (Y0.out.below k1)
  have H4 := Lib.hid h4
  clear k1 HH h4
  cases b
  rotate_left
  · go_wp2
    go_ret
    exact ⟨rfl, HB1.out⟩
  obtain ⟨x0, x1, x2, x3, x4, x5, x6, x7, xlt⟩ := HX1.out
  obtain ⟨y0, y1, y2, y3, y4, y5, y6, y7, ylt⟩ := HY1.out
  go_wp2_with fail
  refine (HH2.out w1 HB1.out).mono ?_; rintro e w2 ⟨⟨b, rfl, h5⟩, k2⟩
  have HB2 := Lib.hid (HB1.out.trans (k2.mono HB1.out.size))
  have HX2 := Lib.hid (HX1.out.below k2)
  have HY2 := Lib.hid (HY1.out.below k2)
  have H5 := Lib.hid h5
  clear k2 HH2 h5 x0 x1 x2 x3 x4 x5 x6 x7 xlt y0 y1 y2 y3 y4 y5 y6 y7 ylt HX1 HY1 X0 Y0
  cases b
  rotate_left
  · go_wp2
    go_ret
    exact ⟨rfl, HB2.out⟩
  obtain ⟨x0, x1, x2, x3, x4, x5, x6, x7, xlt⟩ := HX2.out
  obtain ⟨y0, y1, y2, y3, y4, y5, y6, y7, ylt⟩ := HY2.out
  go_wp2_with fail
  refine (HE1.out w2 HB2.out (H4.out (by first | rfl | trivial))).mono ?_; rintro e w3 ⟨rfl, k3⟩
  have HB3 := Lib.hid (HB2.out.trans (k3.mono HB2.out.size))
  have HX3 := Lib.hid (HX2.out.below k3)
  have HY3 := Lib.hid (HY2.out.below k3)
  clear k3 HE1 x0 x1 x2 x3 x4 x5 x6 x7 xlt y0 y1 y2 y3 y4 y5 y6 y7 ylt HX2 HY2
  obtain ⟨x0, x1, x2, x3, x4, x5, x6, x7, xlt⟩ := HX3.out
  obtain ⟨y0, y1, y2, y3, y4, y5, y6, y7, ylt⟩ := HY3.out
  go_wp2_with fail
  refine (HE2.out w3 HB3.out (H5.out (by first | rfl | trivial))).mono ?_; rintro e w4 ⟨⟨g2, cap2, rfl, hr2⟩, k4⟩
  have HB4 := Lib.hid (HB3.out.trans (k4.mono HB3.out.size))
  have HX4 := Lib.hid (HX3.out.below k4)
  have HY4 := Lib.hid (HY3.out.below k4)
  clear hr2
  clear k4 HE2 x0 x1 x2 x3 x4 x5 x6 x7 xlt y0 y1 y2 y3 y4 y5 y6 y7 ylt HX3 HY3
  obtain ⟨x0, x1, x2, x3, x4, x5, x6, x7, xlt⟩ := HX4.out
  obtain ⟨y0, y1, y2, y3, y4, y5, y6, y7, ylt⟩ := HY4.out
  go_wp2_with fail
  refine (HI1.out w4 HB4.out (H4.out (by first | rfl | trivial))).mono ?_; rintro e w5 ⟨rfl, k5⟩
  have HB5 := Lib.hid (HB4.out.trans (k5.mono HB4.out.size))
  have HX5 := Lib.hid (HX4.out.below k5)
  have HY5 := Lib.hid (HY4.out.below k5)
  clear k5 HI1 x0 x1 x2 x3 x4 x5 x6 x7 xlt y0 y1 y2 y3 y4 y5 y6 y7 ylt HX4 HY4
  obtain ⟨x0, x1, x2, x3, x4, x5, x6, x7, xlt⟩ := HX5.out
  obtain ⟨y0, y1, y2, y3, y4, y5, y6, y7, ylt⟩ := HY5.out
  go_wp2_with fail
  refine (HI2.out w5 HB5.out (H5.out (by first | rfl | trivial))).mono ?_; rintro e w6 ⟨rfl, k6⟩
  have HB6 := Lib.hid (HB5.out.trans (k6.mono HB5.out.size))
  clear k6 HI2 x0 x1 x2 x3 x4 x5 x6 x7 xlt y0 y1 y2 y3 y4 y5 y6 y7 ylt HX5 HY5
  go_wp2_with fail
  refine (known17 _ (HT.out _ HB6.out)).mono ?_; rintro e w7 ⟨rfl, k7⟩
  have HB7 := Lib.hid (HB6.out.trans (k7.mono HB6.out.size))
  clear k7
  go_wp2
  go_ret
  exact ⟨rfl, HB7.out⟩
set_option maxRecDepth 100000 in
set_option maxHeartbeats 8000000 in
theorem apart_yn (k o s m1 c1 m2 c2 k' o' s' m1' c1' m2' c2' : Int) (A A' : Option Addr) (c c' : Nat) (L L' : List Mr) (w : World) (ht : Nib w) (hrow : RowAt w (.slice A L.length c) L) (hrow' : RowAt w (.slice A' L'.length c') L') (hat : ∀ m ∈ L, m.At (fun _ => True) w) (hat' : ∀ m ∈ L', m.At (fun _ => True) w) (hkb : ∀ m ∈ L, isBy m.r.key ∧ isBy m.r.val) (hkb' : ∀ m ∈ L', isBy m.r.key ∧ isBy m.r.val) (hs : ∀ m ∈ L, m.r.val.length ≤ 281474976710656 ∧ m.r.key.length ≤ 281474976710656) (hs' : ∀ m ∈ L', m.r.val.length ≤ 281474976710656 ∧ m.r.key.length ≤ 281474976710656) (hl : L.length ≤ maxLen) (hl' : L'.length ≤ maxLen) (hok : okW (wdOf k o s m1 c1 m2 c2 L) = true) (hok' : okW (wdOf k' o' s' m1' c1' m2' c2' L') = false) :
    Calls Tryd.prog 7 #[wdV k o s m1 c1 m2 c2 (.slice A L.length c), wdV k' o' s' m1' c1' m2' c2' (.slice A' L'.length c')] w fun e w' => e = .returned (.bool true) ∧ Below w.heap.size w w' := by
  have hb0 : Below w.heap.size w ((w.alloc (.cells (wdC k o s m1 c1 m2 c2 (.slice A L.length c)) 26)).alloc (.cells (wdC k' o' s' m1' c1' m2' c2' (.slice A' L'.length c')) 26)) := by (repeat' (first | (with_reducible exact Below.refl _ _) | (with_reducible assumption) | (with_reducible refine Below.trans ?_ (Below.mono (by with_reducible assumption) ?_)) | (with_reducible refine Below.alloc ?_ ?_ _) | (with_reducible refine Below.setCell ?_ ?_ _) | (with_reducible refine below_drewN ?_ _) | (with_reducible refine Below.drew ?_) | go_size))
  have HH := Lib.hid (law_heavy17 k o s m1 c1 m2 c2 A c L _ (hrow.below hb0) hs hl)
  have HH2 := Lib.hid (fun (W : World) (q : Below w.heap.size w W) => law_heavy17 k' o' s' m1' c1' m2' c2' A' c' L' W (hrow'.below q) hs' hl')
  have HB0 := Lib.hid hb0
  have X0 : Hid (Wd8 ((w.alloc (.cells (wdC k o s m1 c1 m2 c2 (.slice A L.length c)) 26)).alloc (.cells (wdC k' o' s' m1' c1' m2' c2' (.slice A' L'.length c')) 26)) w.heap.size k o s m1 c1 m2 c2 (.slice A L.length c)) := Lib.hid ((Wd8.new w 26 k o s m1 c1 m2 c2 (.slice A L.length c)).below ((Below.refl _ _).alloc (Nat.le_refl _) _))
  have Y0 : Hid (Wd8 ((w.alloc (.cells (wdC k o s m1 c1 m2 c2 (.slice A L.length c)) 26)).alloc (.cells (wdC k' o' s' m1' c1' m2' c2' (.slice A' L'.length c')) 26)) (w.heap.size + 1) k' o' s' m1' c1' m2' c2' (.slice A' L'.length c')) := Lib.hid (by
    have h := Wd8.new (w.alloc (.cells (wdC k o s m1 c1 m2 c2 (.slice A L.length c)) 26)) 26 k' o' s' m1' c1' m2' c2' (.slice A' L'.length c')
    rw [World.size_alloc] at h
    exact h)
  have HE1 := Lib.hid (fun (W : World) (q : Below w.heap.size w W) (h4 : L.length ≤ 400) => wd_enc k o s m1 c1 m2 c2 A c L W (ht.below q) (hrow.below q) (fun m hm => (hat m hm).below q) hkb (by omega) hok)
  have HE2 := Lib.hid (fun (W : World) (q : Below w.heap.size w W) (h4 : L'.length ≤ 400) => wd_enc_no k' o' s' m1' c1' m2' c2' A' c' L' W (hrow'.below q) (fun m hm => (hkb' m hm).1) (by omega) hok')
  have HI1 := Lib.hid (fun (W : World) (q : Below w.heap.size w W) (h4 : L.length ≤ 400) => ref17_is k o s m1 c1 m2 c2 A c L W (hrow.below q) (fun m hm => (hkb m hm).1) (by omega))
  have HI2 := Lib.hid (fun (W : World) (q : Below w.heap.size w W) (h4 : L'.length ≤ 400) => ref17_is k' o' s' m1' c1' m2' c2' A' c' L' W (hrow'.below q) (fun m hm => (hkb' m hm).1) (by omega))
  rw [hok] at HI1
  rw [hok'] at HI2
  have HT := Lib.hid (fun (W : World) (q : Below w.heap.size w W) => ht.below q)
  clear hrow hrow' hs hs' hl hl' hb0 hkb hkb' ht hok hok' hat hat'
  go_enter Tryd.func7, Tryd.ntmps7
  go_wp2_with fail
  refine HH.out.mono ?_; rintro e w1 ⟨⟨b, rfl, h4⟩, k1⟩
  have HB1 := Lib.hid (HB0.out.trans (k1.mono HB0.out.size))
  have HX1 := Lib.hid (X0.out.below k1)
  have HY1 := Lib.hid (Y0.out.below k1)
  have H4 := Lib.hid h4
  clear k1 HH h4
  cases b
  rotate_left
  · go_wp2
    go_ret
    exact ⟨rfl, HB1.out⟩
  obtain ⟨x0, x1, x2, x3, x4, x5, x6, x7, xlt⟩ := HX1.out
  obtain ⟨y0, y1, y2, y3, y4, y5, y6, y7, ylt⟩ := HY1.out
  go_wp2_with fail
  refine (HH2.out w1 HB1.out).mono ?_; rintro e w2 ⟨⟨b, rfl, h5⟩, k2⟩
  have HB2 := Lib.hid (HB1.out.trans (k2.mono HB1.out.size))
  have HX2 := Lib.hid (HX1.out.below k2)
  have HY2 := Lib.hid (HY1.out.below k2)
  have H5 := Lib.hid h5
  clear k2 HH2 h5 x0 x1 x2 x3 x4 x5 x6 x7 xlt y0 y1 y2 y3 y4 y5 y6 y7 ylt HX1 HY1 X0 Y0
  cases b
  rotate_left
  · go_wp2
    go_ret
    exact ⟨rfl, HB2.out⟩
  obtain ⟨x0, x1, x2, x3, x4, x5, x6, x7, xlt⟩ := HX2.out
  obtain ⟨y0, y1, y2, y3, y4, y5, y6, y7, ylt⟩ := HY2.out
  go_wp2_with fail
  refine (HE1.out w2 HB2.out (H4.out (by first | rfl | trivial))).mono ?_; rintro e w3 ⟨⟨g1, cap1, rfl, hr1⟩, k3⟩
  have HB3 := Lib.hid (HB2.out.trans (k3.mono HB2.out.size))
  have HX3 := Lib.hid (HX2.out.below k3)
  have HY3 := Lib.hid (HY2.out.below k3)
  have HR1 : Hid (Row8 w2.heap.size w3 g1 cap1 (12 + (encW (wdOf k o s m1 c1 m2 c2 L)).length) (frE (encW (wdOf k o s m1 c1 m2 c2 L)))) := Lib.hid hr1
  clear hr1
  clear k3 HE1 x0 x1 x2 x3 x4 x5 x6 x7 xlt y0 y1 y2 y3 y4 y5 y6 y7 ylt HX2 HY2
  obtain ⟨x0, x1, x2, x3, x4, x5, x6, x7, xlt⟩ := HX3.out
  obtain ⟨y0, y1, y2, y3, y4, y5, y6, y7, ylt⟩ := HY3.out
  go_wp2_with fail
  refine (HE2.out w3 HB3.out (H5.out (by first | rfl | trivial))).mono ?_; rintro e w4 ⟨rfl, k4⟩
  have HB4 := Lib.hid (HB3.out.trans (k4.mono HB3.out.size))
  have HX4 := Lib.hid (HX3.out.below k4)
  have HY4 := Lib.hid (HY3.out.below k4)
  clear HR1
  clear k4 HE2 x0 x1 x2 x3 x4 x5 x6 x7 xlt y0 y1 y2 y3 y4 y5 y6 y7 ylt HX3 HY3
  obtain ⟨x0, x1, x2, x3, x4, x5, x6, x7, xlt⟩ := HX4.out
  obtain ⟨y0, y1, y2, y3, y4, y5, y6, y7, ylt⟩ := HY4.out
  go_wp2_with fail
  refine (HI1.out w4 HB4.out (H4.out (by first | rfl | trivial))).mono ?_; rintro e w5 ⟨rfl, k5⟩
  have HB5 := Lib.hid (HB4.out.trans (k5.mono HB4.out.size))
  have HX5 := Lib.hid (HX4.out.below k5)
  have HY5 := Lib.hid (HY4.out.below k5)
  clear k5 HI1 x0 x1 x2 x3 x4 x5 x6 x7 xlt y0 y1 y2 y3 y4 y5 y6 y7 ylt HX4 HY4
  obtain ⟨x0, x1, x2, x3, x4, x5, x6, x7, xlt⟩ := HX5.out
  obtain ⟨y0, y1, y2, y3, y4, y5, y6, y7, ylt⟩ := HY5.out
  go_wp2_with fail
  refine (HI2.out w5 HB5.out (H5.out (by first | rfl | trivial))).mono ?_; rintro e w6 ⟨rfl, k6⟩
  have HB6 := Lib.hid (HB5.out.trans (k6.mono HB5.out.size))
  clear k6 HI2 x0 x1 x2 x3 x4 x5 x6 x7 xlt y0 y1 y2 y3 y4 y5 y6 y7 ylt HX5 HY5
  go_wp2_with fail
  refine (known17 _ (HT.out _ HB6.out)).mono ?_; rintro e w7 ⟨rfl, k7⟩
  have HB7 := Lib.hid (HB6.out.trans (k7.mono HB6.out.size))
  clear k7
  go_wp2
  go_ret
  exact ⟨rfl, HB7.out⟩
set_option maxRecDepth 100000 in
set_option maxHeartbeats 8000000 in
theorem apart_yy (k o s m1 c1 m2 c2 k' o' s' m1' c1' m2' c2' : Int) (A A' : Option Addr) (c c' : Nat) (L L' : List Mr) (w : World) (ht : Nib w) (hrow : RowAt w (.slice A L.length c) L) (hrow' : RowAt w (.slice A' L'.length c') L') (hat : ∀ m ∈ L, m.At (fun _ => True) w) (hat' : ∀ m ∈ L', m.At (fun _ => True) w) (hkb : ∀ m ∈ L, isBy m.r.key ∧ isBy m.r.val) (hkb' : ∀ m ∈ L', isBy m.r.key ∧ isBy m.r.val) (hs : ∀ m ∈ L, m.r.val.length ≤ 281474976710656 ∧ m.r.key.length ≤ 281474976710656) (hs' : ∀ m ∈ L', m.r.val.length ≤ 281474976710656 ∧ m.r.key.length ≤ 281474976710656) (hl : L.length ≤ maxLen) (hl' : L'.length ≤ maxLen) (hok : okW (wdOf k o s m1 c1 m2 c2 L) = true) (hok' : okW (wdOf k' o' s' m1' c1' m2' c2' L') = true) :
    Calls Tryd.prog 7 #[wdV k o s m1 c1 m2 c2 (.slice A L.length c), wdV k' o' s' m1' c1' m2' c2' (.slice A' L'.length c')] w fun e w' => e = .returned (.bool true) ∧ Below w.heap.size w w' := by
  have hb0 : Below w.heap.size w ((w.alloc (.cells (wdC k o s m1 c1 m2 c2 (.slice A L.length c)) 26)).alloc (.cells (wdC k' o' s' m1' c1' m2' c2' (.slice A' L'.length c')) 26)) := by (repeat' (first | (with_reducible exact Below.refl _ _) | (with_reducible assumption) | (with_reducible refine Below.trans ?_ (Below.mono (by with_reducible assumption) ?_)) | (with_reducible refine Below.alloc ?_ ?_ _) | (with_reducible refine Below.setCell ?_ ?_ _) | (with_reducible refine below_drewN ?_ _) | (with_reducible refine Below.drew ?_) | go_size))
  have HH := Lib.hid (law_heavy17 k o s m1 c1 m2 c2 A c L _ (hrow.below hb0) hs hl)
  have HH2 := Lib.hid (fun (W : World) (q : Below w.heap.size w W) => law_heavy17 k' o' s' m1' c1' m2' c2' A' c' L' W (hrow'.below q) hs' hl')
  have HB0 := Lib.hid hb0
  have X0 : Hid (Wd8 ((w.alloc (.cells (wdC k o s m1 c1 m2 c2 (.slice A L.length c)) 26)).alloc (.cells (wdC k' o' s' m1' c1' m2' c2' (.slice A' L'.length c')) 26)) w.heap.size k o s m1 c1 m2 c2 (.slice A L.length c)) := Lib.hid ((Wd8.new w 26 k o s m1 c1 m2 c2 (.slice A L.length c)).below ((Below.refl _ _).alloc (Nat.le_refl _) _))
  have Y0 : Hid (Wd8 ((w.alloc (.cells (wdC k o s m1 c1 m2 c2 (.slice A L.length c)) 26)).alloc (.cells (wdC k' o' s' m1' c1' m2' c2' (.slice A' L'.length c')) 26)) (w.heap.size + 1) k' o' s' m1' c1' m2' c2' (.slice A' L'.length c')) := Lib.hid (by
    have h := Wd8.new (w.alloc (.cells (wdC k o s m1 c1 m2 c2 (.slice A L.length c)) 26)) 26 k' o' s' m1' c1' m2' c2' (.slice A' L'.length c')
    rw [World.size_alloc] at h
    exact h)
  have HE1 := Lib.hid (fun (W : World) (q : Below w.heap.size w W) (h4 : L.length ≤ 400) => wd_enc k o s m1 c1 m2 c2 A c L W (ht.below q) (hrow.below q) (fun m hm => (hat m hm).below q) hkb (by omega) hok)
  have HE2 := Lib.hid (fun (W : World) (q : Below w.heap.size w W) (h4 : L'.length ≤ 400) => wd_enc k' o' s' m1' c1' m2' c2' A' c' L' W (ht.below q) (hrow'.below q) (fun m hm => (hat' m hm).below q) hkb' (by omega) hok')
  have HW := Lib.hid (fun (W : World) (q : Below w.heap.size w W) (h4 : L.length ≤ 400) => law_words k o s m1 c1 m2 c2 k' o' s' m1' c1' m2' c2' A A' c c' L L' W (hrow.below q) (hrow'.below q) (fun m hm => (hat m hm).below q) (fun m hm => (hat' m hm).below q) hkb hkb' (by omega))
  have HBD := Lib.hid (encW_bd hok)
  have HBD' := Lib.hid (encW_bd hok')
  have HIJ : Hid (frE (encW (wdOf k o s m1 c1 m2 c2 L)) = frE (encW (wdOf k' o' s' m1' c1' m2' c2' L')) ↔ wdOf k o s m1 c1 m2 c2 L = wdOf k' o' s' m1' c1' m2' c2' L') := Lib.hid ⟨fun h => encW_inj hok hok' (frE_inj (encW_bw hkb) (encW_bw hkb') (by have := (encW_bd hok).2; omega) (by have := (encW_bd hok').2; omega) h), fun h => by rw [h]⟩
  have HT := Lib.hid (fun (W : World) (q : Below w.heap.size w W) => ht.below q)
  clear hrow hrow' hs hs' hl hl' hb0 hkb hkb' ht hok hok' hat hat'
  go_enter Tryd.func7, Tryd.ntmps7
  go_wp2_with fail
  refine HH.out.mono ?_; rintro e w1 ⟨⟨b, rfl, h4⟩, k1⟩
  have HB1 := Lib.hid (HB0.out.trans (k1.mono HB0.out.size))
  have HX1 := Lib.hid (X0.out.below k1)
  have HY1 := Lib.hid (Y0.out.below k1)
  have H4 := Lib.hid h4
  clear k1 HH h4
  cases b
  rotate_left
  · go_wp2
    go_ret
    exact ⟨rfl, HB1.out⟩
  obtain ⟨x0, x1, x2, x3, x4, x5, x6, x7, xlt⟩ := HX1.out
  obtain ⟨y0, y1, y2, y3, y4, y5, y6, y7, ylt⟩ := HY1.out
  go_wp2_with fail
  refine (HH2.out w1 HB1.out).mono ?_; rintro e w2 ⟨⟨b, rfl, h5⟩, k2⟩
  have HB2 := Lib.hid (HB1.out.trans (k2.mono HB1.out.size))
  have HX2 := Lib.hid (HX1.out.below k2)
  have HY2 := Lib.hid (HY1.out.below k2)
  have H5 := Lib.hid h5
  clear k2 HH2 h5 x0 x1 x2 x3 x4 x5 x6 x7 xlt y0 y1 y2 y3 y4 y5 y6 y7 ylt HX1 HY1 X0 Y0
  cases b
  rotate_left
  · go_wp2
    go_ret
    exact ⟨rfl, HB2.out⟩
  obtain ⟨x0, x1, x2, x3, x4, x5, x6, x7, xlt⟩ := HX2.out
  obtain ⟨y0, y1, y2, y3, y4, y5, y6, y7, ylt⟩ := HY2.out
  go_wp2_with fail
  refine (HE1.out w2 HB2.out (H4.out (by first | rfl | trivial))).mono ?_; rintro e w3 ⟨⟨g1, cap1, rfl, hr1⟩, k3⟩
  have HB3 := Lib.hid (HB2.out.trans (k3.mono HB2.out.size))
  have HX3 := Lib.hid (HX2.out.below k3)
  have HY3 := Lib.hid (HY2.out.below k3)
  have HR1 : Hid (Row8 w2.heap.size w3 g1 cap1 (12 + (encW (wdOf k o s m1 c1 m2 c2 L)).length) (frE (encW (wdOf k o s m1 c1 m2 c2 L)))) := Lib.hid hr1
  clear hr1
  clear k3 HE1 x0 x1 x2 x3 x4 x5 x6 x7 xlt y0 y1 y2 y3 y4 y5 y6 y7 ylt HX2 HY2
  obtain ⟨x0, x1, x2, x3, x4, x5, x6, x7, xlt⟩ := HX3.out
  obtain ⟨y0, y1, y2, y3, y4, y5, y6, y7, ylt⟩ := HY3.out
  go_wp2_with fail
  refine (HE2.out w3 HB3.out (H5.out (by first | rfl | trivial))).mono ?_; rintro e w4 ⟨⟨g2, cap2, rfl, hr2⟩, k4⟩
  have HB4 := Lib.hid (HB3.out.trans (k4.mono HB3.out.size))
  have HX4 := Lib.hid (HX3.out.below k4)
  have HY4 := Lib.hid (HY3.out.below k4)
  have HR1' := Lib.hid (HR1.out.below k4)
  have HR2 : Hid (Row8 w3.heap.size w4 g2 cap2 (12 + (encW (wdOf k' o' s' m1' c1' m2' c2' L')).length) (frE (encW (wdOf k' o' s' m1' c1' m2' c2' L')))) := Lib.hid hr2
  clear hr2
  clear k4 HE2 x0 x1 x2 x3 x4 x5 x6 x7 xlt y0 y1 y2 y3 y4 y5 y6 y7 ylt HX3 HY3
  obtain ⟨x0, x1, x2, x3, x4, x5, x6, x7, xlt⟩ := HX4.out
  obtain ⟨y0, y1, y2, y3, y4, y5, y6, y7, ylt⟩ := HY4.out
  have HIJ' := Lib.hid HIJ.out
  generalize hPa : frE (encW (wdOf k o s m1 c1 m2 c2 L)) = Pa at *
  generalize hPb : frE (encW (wdOf k' o' s' m1' c1' m2' c2' L')) = Pb at *
  have HPA : Hid (12 + (encW (wdOf k o s m1 c1 m2 c2 L)).length = Pa.length) := Lib.hid (by rw [← hPa, frE_len])
  have HPB : Hid (12 + (encW (wdOf k' o' s' m1' c1' m2' c2' L')).length = Pb.length) := Lib.hid (by rw [← hPb, frE_len])
  have HRa : Hid (Row8 w2.heap.size w4 g1 cap1 Pa.length Pa) := Lib.hid (by have h := HR1'.out; rw [HPA.out] at h; exact h)
  have HRb : Hid (Row8 w3.heap.size w4 g2 cap2 Pb.length Pb) := Lib.hid (by have h := HR2.out; rw [HPB.out] at h; exact h)
  have HLP : Hid (Pa.length ≤ 1000000 ∧ Pb.length ≤ 1000000) := Lib.hid (by have h1 := HPA.out; have h2 := HPB.out; have h3 := HBD.out.2; have h4 := HBD'.out.2; omega)
  rw [HPA.out, HPB.out]
  have HS := Lib.hid (fun (W : World) (q : Below w4.heap.size w4 W) => (lsame (some ⟨g1, 0, none⟩) Pa cap1 (some ⟨g2, 0, none⟩) Pb cap2 W HLP.out.1 HLP.out.2 (HRa.out.by_.below q) (HRb.out.by_.below q)).mono (R' := fun e w' => e = .returned (.bool (decide (Pa = Pb))) ∧ Go.RowKit.Below W.heap.size W w') (fun e w' h => ⟨h.1, by obtain ⟨_, q5, rfl⟩ := h; exact below_drewN (Go.RowKit.Below.refl W.heap.size W) q5⟩))
  clear hPa hPb HPA HPB HR1 HR1' HR2 HBD HBD' HIJ'
  go_upto_region 7 with fail
  refine wp_region_held_drew (S := fun w' => w'.cell? ⟨w.heap.size, 0, none⟩ = some (.int .i64 k) ∧ w'.cell? ⟨w.heap.size, 1, none⟩ = some (.int .i64 o) ∧ w'.cell? ⟨w.heap.size, 2, none⟩ = some (.int .i64 s) ∧ w'.cell? ⟨w.heap.size, 3, none⟩ = some (.int .i64 m1) ∧ w'.cell? ⟨w.heap.size, 4, none⟩ = some (.int .i64 c1) ∧ w'.cell? ⟨w.heap.size, 5, none⟩ = some (.int .i64 m2) ∧ w'.cell? ⟨w.heap.size, 6, none⟩ = some (.int .i64 c2) ∧ w'.cell? ⟨w.heap.size, 7, none⟩ = some (.slice A L.length c) ∧ w'.cell? ⟨w.heap.size + 1, 0, none⟩ = some (.int .i64 k') ∧ w'.cell? ⟨w.heap.size + 1, 1, none⟩ = some (.int .i64 o') ∧ w'.cell? ⟨w.heap.size + 1, 2, none⟩ = some (.int .i64 s') ∧ w'.cell? ⟨w.heap.size + 1, 3, none⟩ = some (.int .i64 m1') ∧ w'.cell? ⟨w.heap.size + 1, 4, none⟩ = some (.int .i64 c1') ∧ w'.cell? ⟨w.heap.size + 1, 5, none⟩ = some (.int .i64 m2') ∧ w'.cell? ⟨w.heap.size + 1, 6, none⟩ = some (.int .i64 c2') ∧ w'.cell? ⟨w.heap.size + 1, 7, none⟩ = some (.slice A' L'.length c')) (by kernel_rfl) ?_ (fun hHeld => ?_)
  · exact ⟨x0, x1, x2, x3, x4, x5, x6, x7, y0, y1, y2, y3, y4, y5, y6, y7⟩
  refine wpAnyH_take (i := 0) (v := ?_) rfl (by kernel_rfl) (by kernel_rfl) (by kernel_rfl) (fun _ _ _ h => h) (Or.inl ⟨by rfl, ?_⟩) (by assumption) ?_
  rotate_left
  · intro w' hSw; (try dsimp only at hSw); go_simp; (try with_reducible rfl)
  (try simp only [Act.put, List.setIfInBounds_toArray, List.set_cons_zero, List.set_cons_succ, List.getElem_toArray, List.getElem_cons_succ, List.getElem_cons_zero])
  refine wpAnyH_take (i := 1) (v := ?_) rfl (by kernel_rfl) (by kernel_rfl) (by kernel_rfl) (fun _ _ _ h => h) (Or.inl ⟨by rfl, ?_⟩) (by assumption) ?_
  rotate_left
  · intro w' hSw; (try dsimp only at hSw); go_simp; (try with_reducible rfl)
  (try simp only [Act.put, List.setIfInBounds_toArray, List.set_cons_zero, List.set_cons_succ, List.getElem_toArray, List.getElem_cons_succ, List.getElem_cons_zero])
  refine wpAnyH_take (i := 3) (v := ?_) rfl (by kernel_rfl) (by kernel_rfl) (by kernel_rfl) (fun _ _ _ h => h) (Or.inl ⟨by rfl, ?_⟩) (by assumption) ?_
  rotate_left
  · intro w' hSw; (try dsimp only at hSw); go_simp; (try with_reducible rfl)
  (try simp only [Act.put, List.setIfInBounds_toArray, List.set_cons_zero, List.set_cons_succ, List.getElem_toArray, List.getElem_cons_succ, List.getElem_cons_zero])
  refine wpAnyH_take (i := 4) (v := ?_) rfl (by kernel_rfl) (by kernel_rfl) (by kernel_rfl) (fun _ _ _ h => h) (Or.inl ⟨by rfl, ?_⟩) (by assumption) ?_
  rotate_left
  · intro w' hSw; (try dsimp only at hSw); go_simp; (try with_reducible rfl)
  (try simp only [Act.put, List.setIfInBounds_toArray, List.set_cons_zero, List.set_cons_succ, List.getElem_toArray, List.getElem_cons_succ, List.getElem_cons_zero])
  refine wpAnyH_ready (rs := [2]) (by kernel_rfl) (by simp) ?_
  refine AllReadyH.cons rfl (fun K hK => ?_) AllReadyH.nil
  go_simp
  (go_at_call 12; refine (HS.out _ (Go.RowKit.Below.refl w4.heap.size w4).drew).mono ?_; rintro e w5 ⟨rfl, k5⟩; have HB5 := Lib.hid (HB4.out.drew.trans (k5.mono HB4.out.drew.size)))
  (try dsimp only)
  refine hK.out _ _ ?_ (fun hHeld => ?_)
  · exact (by obtain ⟨s0, s1, s2, s3, s4, s5, s6, s7, s8, s9, s10, s11, s12, s13, s14, s15⟩ := hHeld; exact ⟨cell_on s0 k5, cell_on s1 k5, cell_on s2 k5, cell_on s3 k5, cell_on s4 k5, cell_on s5 k5, cell_on s6 k5, cell_on s7 k5, cell_on s8 k5, cell_on s9 k5, cell_on s10 k5, cell_on s11 k5, cell_on s12 k5, cell_on s13 k5, cell_on s14 k5, cell_on s15 k5⟩)
  clear hK K
  (try simp only [Act.put, List.setIfInBounds_toArray, List.set_cons_zero, List.set_cons_succ, List.getElem_toArray, List.getElem_cons_succ, List.getElem_cons_zero])
  refine wpAnyH_ready (rs := [5]) (by kernel_rfl) (by simp) ?_
  refine AllReadyH.cons rfl (fun K hK => ?_) AllReadyH.nil
  go_simp
  (go_at_call 13; refine (HW.out _ HB5.out (H4.out (by first | rfl | trivial))).mono ?_; rintro e w6 ⟨⟨b6, rfl, hb6⟩, k6⟩; have HB6 := Lib.hid (HB5.out.trans (k6.mono HB5.out.size)); have hbe : b6 = decide (Pa = Pb) := (by have h := hb6.trans HIJ.out.symm; cases b6 <;> simp_all); subst hbe)
  (try dsimp only)
  refine hK.out _ _ ?_ (fun hHeld => ?_)
  · exact (by obtain ⟨s0, s1, s2, s3, s4, s5, s6, s7, s8, s9, s10, s11, s12, s13, s14, s15⟩ := hHeld; exact ⟨cell_on s0 k6, cell_on s1 k6, cell_on s2 k6, cell_on s3 k6, cell_on s4 k6, cell_on s5 k6, cell_on s6 k6, cell_on s7 k6, cell_on s8 k6, cell_on s9 k6, cell_on s10 k6, cell_on s11 k6, cell_on s12 k6, cell_on s13 k6, cell_on s14 k6, cell_on s15 k6⟩)
  clear hK K
  (try simp only [Act.put, List.setIfInBounds_toArray, List.set_cons_zero, List.set_cons_succ, List.getElem_toArray, List.getElem_cons_succ, List.getElem_cons_zero])
  refine wpAnyH_take (i := 6) (v := ?_) rfl (by kernel_rfl) (by kernel_rfl) (by kernel_rfl) (fun _ _ _ h => h) (Or.inl ⟨by rfl, ?_⟩) (by assumption) ?_
  rotate_left
  · intro w' hSw; (try dsimp only at hSw); go_simp; (try with_reducible rfl)
  (try simp only [Act.put, List.setIfInBounds_toArray, List.set_cons_zero, List.set_cons_succ, List.getElem_toArray, List.getElem_cons_succ, List.getElem_cons_zero])
  refine wpAnyH_take (i := 7) (v := ?_) rfl (by kernel_rfl) (by kernel_rfl) (by kernel_rfl) (fun _ _ _ h => h) (Or.inl ⟨by rfl, ?_⟩) (by assumption) ?_
  rotate_left
  · intro w' hSw; (try dsimp only at hSw); go_simp; (try with_reducible rfl)
  (try simp only [Act.put, List.setIfInBounds_toArray, List.set_cons_zero, List.set_cons_succ, List.getElem_toArray, List.getElem_cons_succ, List.getElem_cons_zero])
  refine wpAnyH_ready (rs := [8]) (by kernel_rfl) (by simp) ?_
  refine AllReadyH.cons rfl (fun K hK => ?_) AllReadyH.nil
  go_simp
  (go_at_call 14; refine (known17 _ (HT.out _ HB6.out)).mono ?_; rintro e w7 ⟨rfl, k7⟩; have HB7 := Lib.hid (HB6.out.trans (k7.mono HB6.out.size)))
  (try dsimp only)
  refine hK.out _ _ ?_ (fun hHeld => ?_)
  · exact (by obtain ⟨s0, s1, s2, s3, s4, s5, s6, s7, s8, s9, s10, s11, s12, s13, s14, s15⟩ := hHeld; exact ⟨cell_on s0 k7, cell_on s1 k7, cell_on s2 k7, cell_on s3 k7, cell_on s4 k7, cell_on s5 k7, cell_on s6 k7, cell_on s7 k7, cell_on s8 k7, cell_on s9 k7, cell_on s10 k7, cell_on s11 k7, cell_on s12 k7, cell_on s13 k7, cell_on s14 k7, cell_on s15 k7⟩)
  clear hK K
  (try simp only [Act.put, List.setIfInBounds_toArray, List.set_cons_zero, List.set_cons_succ, List.getElem_toArray, List.getElem_cons_succ, List.getElem_cons_zero])
  refine wpAnyH_take (i := 9) (v := ?_) rfl (by kernel_rfl) (by kernel_rfl) (by kernel_rfl) (fun _ _ _ h => h) (Or.inl ⟨by rfl, ?_⟩) (by assumption) ?_
  rotate_left
  · intro w' hSw; (try dsimp only at hSw); go_simp; (try with_reducible rfl)
  (try simp only [Act.put, List.setIfInBounds_toArray, List.set_cons_zero, List.set_cons_succ, List.getElem_toArray, List.getElem_cons_succ, List.getElem_cons_zero])
  refine wpAnyH_take (i := 10) (v := ?_) rfl (by kernel_rfl) (by kernel_rfl) (by kernel_rfl) (fun _ _ _ h => h) (Or.inl ⟨by rfl, ?_⟩) (by assumption) ?_
  rotate_left
  · intro w' hSw; (try dsimp only at hSw); go_simp; (try with_reducible rfl)
  (try simp only [Act.put, List.setIfInBounds_toArray, List.set_cons_zero, List.set_cons_succ, List.getElem_toArray, List.getElem_cons_succ, List.getElem_cons_zero])
  refine wpAnyH_done (by kernel_rfl) ?_ _
  go_wp2
  go_ret
  exact ⟨rfl, HB7.out⟩
end Go.Proofs.YtlgnjjjbajfjaaaDoor
