/- Stage 3: LeapBad: a table that is made bad is none: for every table, leap of it and way: written by gen/s3g.py. -/
import Derived.Test.YtonleiffbfdikaaDoorDoor3
import Derived.Test.YtonleiffbfdikaaDoorLeapOwn
import Derived.Test.YtonleiffbfdikaaDoorLeapOf2
import Derived.Test.YtonleiffbfdikaaDoorLow8
set_option linter.unusedSimpArgs false
set_option linter.unusedVariables false
namespace Go.Proofs.YtonleiffbfdikaaDoor
open Go.ChangeShapes Go.WideShapes Go.ChangeAt Go.RowKit Go.Joins

theorem Tb.only {g : Nat} {w w' : World} {b : Nat} {v : Value} {x : Int} (h : Tb w b v x) (k : Only g w w') (hne : b ≠ g) : Tb w' b v x :=
  ⟨(k.cell _ _ h.lt hne).trans h.c0, (k.cell _ _ h.lt hne).trans h.c1, (k.frozen _ _ h.lt hne).trans h.f0, (k.frozen _ _ h.lt hne).trans h.f1, Nat.lt_of_lt_of_le h.lt k.size⟩
def upd (z : Nat → Int) (j : Nat) (v : Int) : Nat → Int := fun i => if i = j then v else z i
theorem upd_same (z : Nat → Int) (j : Nat) (v : Int) : upd z j v j = v := if_pos rfl
theorem upd_other {z : Nat → Int} {j : Nat} {v : Int} {i : Nat} (h : i ≠ j) : upd z j v i = z i := if_neg h
theorem flat_upd {w : World} {g n j : Nat} {z : Nat → Int} {v : Int} (h : FlatAt w (some ⟨g, 0, none⟩) 2 n z) (hj : j < n * 2) (hv : -9223372036854775808 ≤ v ∧ v ≤ 9223372036854775807) : FlatAt (w.setCell ⟨g, j, none⟩ (.int .i64 v)) (some ⟨g, 0, none⟩) 2 n (upd z j v) := by
  intro h0
  obtain ⟨B, O, e, hB, hc⟩ := h h0
  injection e with e
  injection e with e1 e2
  subst e1
  subst e2
  refine ⟨g, 0, rfl, by simpa [World.setCell] using hB, fun i hi => ?_⟩
  by_cases hij : i = j
  · subst hij
    rw [upd_same, Nat.zero_add]
    have := (hc i hi).1
    rw [Nat.zero_add] at this
    exact ⟨World.cell?_setCell_same _ _ _ this, hv⟩
  · rw [upd_other hij]
    refine ⟨(World.cell?_setCell_other _ _ _ _ (fun e => hij ?_)).trans (hc i hi).1, (hc i hi).2⟩
    injection e with _ e2
    omega
theorem first_not {a : Int} (h : First a) : ¬ First (a + 1) := by
  obtain ⟨y, m, hv, hn⟩ := h
  obtain ⟨a1, a2, a3, a4, a5, a6⟩ := hv
  have hd := Cal.dim_bd y m
  have hv2 : Cal.Vld y m 2 := ⟨a1, a2, a3, a4, by omega, by omega⟩
  have hn2 : a + 1 = Cal.num y m 2 := by unfold Cal.num at hn ⊢; omega
  rw [first_iff hv2 hn2]
  omega
theorem bad0 {z : Nat → Int} {n : Nat} {x : Int} (k : Nat) (hk : k < n) : ¬ IsTab (upd z (k * 2 + 1) 1001) n x := fun h => by
  have := (h.2.2.1 k hk).2.2.2.1
  rw [upd_same] at this
  omega
theorem bad1 {z : Nat → Int} {n : Nat} : ¬ IsTab z n (z ((n - 1) * 2)) := fun h => by
  have := h.2.2.2.2.2
  omega
theorem bad2 {z : Nat → Int} {n : Nat} {x : Int} (ht : IsTab z n x) (k : Nat) (hk : k + 1 < n) : ¬ IsTab (upd z ((k + 1) * 2) (z ((k + 1) * 2) + 1)) n x := fun h => by
  have h1 := (h.2.2.1 (k + 1) hk).2.2.2.2
  have h2 := (ht.2.2.1 (k + 1) hk).2.2.2.2
  rw [upd_same] at h1
  rcases h1 with h1 | h1
  · omega
  · rcases h2 with h2 | h2
    · omega
    · exact first_not h2.2.1 h1.2.1
theorem bad3 {z : Nat → Int} {n : Nat} {x : Int} (k : Nat) (hk : k + 1 < n) : ¬ IsTab (upd z ((k + 1) * 2 + 1) (z (k * 2 + 1))) n x := fun h => by
  have h1 := (h.2.2.1 (k + 1) hk).2.2.2.2
  rw [upd_same, show k + 1 - 1 = k from by omega, upd_other (show k * 2 + 1 ≠ (k + 1) * 2 + 1 by omega)] at h1
  rcases h1 with h1 | ⟨_, _, h1⟩
  · omega
  · omega
set_option maxHeartbeats 1000000 in
theorem bad_out (A : Option Addr) (n c : Nat) (x a b : Int) (w : World) (hm : Mx w) (h : 300 < n) :
    Calls Tryd.prog 8 #[.agg #[.slice A n c, .int .i64 x], .int .i64 a, .int .i64 b] w fun e w' => e = .returned (.bool true) ∧ Below w.heap.size w w' := by
  have HB0 : Below w.heap.size w (w.alloc (.cells #[.slice A n c, .int .i64 x] 24)) := by (repeat' (first | (with_reducible exact Below.refl _ _) | (with_reducible assumption) | (with_reducible refine Below.trans ?_ (Below.mono (by with_reducible assumption) ?_)) | (with_reducible refine Below.alloc ?_ ?_ _) | (with_reducible refine Below.setCell ?_ ?_ _) | (with_reducible refine below_drewN ?_ _) | (with_reducible refine Below.drew ?_) | go_size))
  have HK := Lib.hid (known3 _ (hm.below HB0))
  have k1 : decide ((300 : Int) < (n : Int)) = true := by simp only [decide_eq_true_eq]; omega
  clear h hm
  go_enter Tryd.func8, Tryd.ntmps8
  go_wp2_with fail
  refine HK.out.mono ?_; rintro e w1 ⟨rfl, hb1⟩
  have HB1 := HB0.trans (hb1.mono HB0.size)
  clear hb1
  go_wp2
  go_ret
  exact ⟨rfl, HB1⟩
set_option maxHeartbeats 1000000 in
theorem bad_no (A : Option Addr) (n c : Nat) (x a b : Int) (z : Nat → Int) (w : World) (hm : Mx w) (hz : FlatAt w A 2 n z) (hn : n ≤ 300) (ht : ¬ IsTab z n x) :
    Calls Tryd.prog 8 #[.agg #[.slice A n c, .int .i64 x], .int .i64 a, .int .i64 b] w fun e w' => e = .returned (.bool true) ∧ Below w.heap.size w w' := by
  have HB0 : Below w.heap.size w (w.alloc (.cells #[.slice A n c, .int .i64 x] 24)) := by (repeat' (first | (with_reducible exact Below.refl _ _) | (with_reducible assumption) | (with_reducible refine Below.trans ?_ (Below.mono (by with_reducible assumption) ?_)) | (with_reducible refine Below.alloc ?_ ?_ _) | (with_reducible refine Below.setCell ?_ ?_ _) | (with_reducible refine below_drewN ?_ _) | (with_reducible refine Below.drew ?_) | go_size))
  have HM := Lib.hid hm
  have HI := Lib.hid (ref3_is A n c x z _ false (hz.below HB0) (by unfold maxLen; omega) (by simp [ht]))
  have k1 : decide ((300 : Int) < (n : Int)) = false := by simp only [decide_eq_false_iff_not]; omega
  clear hm hz hn ht
  go_enter Tryd.func8, Tryd.ntmps8
  go_wp2_with fail
  refine HI.out.mono ?_; rintro e w1 ⟨rfl, hb1⟩
  have HB1 := HB0.trans (hb1.mono HB0.size)
  clear hb1
  go_wp2_with fail
  refine (known3 _ (HM.out.below HB1)).mono ?_; rintro e w2 ⟨rfl, hb2⟩
  have HB2 := HB1.trans (hb2.mono HB1.size)
  clear hb2
  go_wp2
  go_ret
  exact ⟨rfl, HB2⟩
set_option maxRecDepth 100000 in
set_option maxHeartbeats 4000000 in
theorem bad_w0 (ad : Addr) (n c kk : Nat) (x a b : Int) (z : Nat → Int) (w : World) (hm : Mx w) (hz : FlatAt w (some ad) 2 n z) (ht : IsTab z n x) (hk : bits .and .i64 a 65535 % (n : Int) = (kk : Nat)) (hk2 : kk < n) (hw : bits .and .i64 b 3 = 0) :
    Calls Tryd.prog 8 #[.agg #[.slice (some ad) n c, .int .i64 x], .int .i64 a, .int .i64 b] w fun e w' => e = .returned (.bool true) ∧ Below w.heap.size w w' := by
  have HB0 : Below w.heap.size w (w.alloc (.cells #[.slice (some ad) n c, .int .i64 x] 24)) := by (repeat' (first | (with_reducible exact Below.refl _ _) | (with_reducible assumption) | (with_reducible refine Below.trans ?_ (Below.mono (by with_reducible assumption) ?_)) | (with_reducible refine Below.alloc ?_ ?_ _) | (with_reducible refine Below.setCell ?_ ?_ _) | (with_reducible refine below_drewN ?_ _) | (with_reducible refine Below.drew ?_) | go_size))
  have X0 : Tb (w.alloc (.cells #[.slice (some ad) n c, .int .i64 x] 24)) w.heap.size (.slice (some ad) n c) x := ⟨by simp [go_sem], by simp [go_sem], by simp [go_sem], by simp [go_sem], by simp⟩
  have n1 : 1 ≤ n := ht.1
  have n100 : n ≤ 100 := ht.2.1
  have hbd := hz.bd
  have HM := Lib.hid hm
  have HZ := Lib.hid hz
  have HT := Lib.hid ht
  have HI := Lib.hid (ref3_is (some ad) n c x z _ true (hz.below HB0) (by unfold maxLen; omega) (by simp [ht]))
  have t1 : decide ((300 : Int) < (n : Int)) = false := by simp only [decide_eq_false_iff_not]; omega
  have t0 : ¬ (n : Int) = 0 := by omega
  have bb := bits_and_le a 65535 (by omega)
  have bb' : 0 ≤ bits .and .i64 a 65535 ∧ bits .and .i64 a 65535 ≤ 65535 := bb
  have bb0 : 0 ≤ bits .and .i64 a 65535 := bb'.1
  have bb1 : bits .and .i64 a 65535 ≤ 65535 := bb'.2
  have hkt : (bits .and .i64 a 65535).tmod (n : Int) = bits .and .i64 a 65535 % (n : Int) := Int.tmod_eq_emod_of_nonneg bb0
  rw [hk] at hkt
  have i0 : (0 : Int) ≤ (kk : Int) := by omega
  have i1 : (kk : Int) < (n : Int) := by omega
  have hkk : kk < n := by omega
  clear bb bb'
  clear hm hz ht
  go_enter Tryd.func8, Tryd.ntmps8
  go_wp2_with fail
  refine HI.out.mono ?_; rintro e w1 ⟨rfl, hb1⟩
  have HB1 := HB0.trans (hb1.mono HB0.size)
  have X1 := X0.below hb1
  obtain ⟨x0, x1, xf0, xf1, xl⟩ := X1
  clear hb1 X0 HB0 HI
  go_wp2_with fail
  refine (own_yes ad n c x z w1 (HZ.out.below HB1) (by omega) (by omega)).mono ?_; rintro e w2 ⟨⟨g, cap, rfl, hg, hrow⟩, hb2⟩
  have HB2 := HB1.trans (hb2.mono HB1.size)
  have HV : Below w2.heap.size w2 (w2.alloc (.cells #[.slice (some ⟨g, 0, none⟩) n cap, .int .i64 x] 24)) := by (repeat' (first | (with_reducible exact Below.refl _ _) | (with_reducible assumption) | (with_reducible refine Below.trans ?_ (Below.mono (by with_reducible assumption) ?_)) | (with_reducible refine Below.alloc ?_ ?_ _) | (with_reducible refine Below.setCell ?_ ?_ _) | (with_reducible refine below_drewN ?_ _) | (with_reducible refine Below.drew ?_) | go_size))
  have HBV := Lib.hid (HB2.trans (HV.mono HB2.size))
  have hgl : g < w2.heap.size := (hrow.lt g rfl).2
  have FV : FlatAt (w2.alloc (.cells #[.slice (some ⟨g, 0, none⟩) n cap, .int .i64 x] 24)) (some ⟨g, 0, none⟩) 2 n z := by
    have h := own_flat2 hrow hbd
    obtain ⟨A', c', e, hf, _⟩ := h
    injection e with e1 e2 e3
    subst e1
    exact hf.below HV
  have hfz : ∀ o, (w2.alloc (.cells #[.slice (some ⟨g, 0, none⟩) n cap, .int .i64 x] 24)).frozen? ⟨g, o, none⟩ = false := fun o => (HV.frozen (p := ⟨g, o, none⟩) hgl).trans (by
    rcases hrow.2 with ⟨h, _⟩ | ⟨g', cap', cur, h, _, hh, _⟩
    · cases h
    · injection h with h1
      injection h1 with h1
      injection h1 with h1
      subst h1
      simp [World.frozen?, hh])
  have TV : Tb (w2.alloc (.cells #[.slice (some ⟨g, 0, none⟩) n cap, .int .i64 x] 24)) w2.heap.size (.slice (some ⟨g, 0, none⟩) n cap) x := ⟨by simp [go_sem], by simp [go_sem], by simp [go_sem], by simp [go_sem], by simp⟩
  have hcell : ∀ j, j < n * 2 → (w2.alloc (.cells #[.slice (some ⟨g, 0, none⟩) n cap, .int .i64 x] 24)).cell? ⟨g, j, none⟩ = some (.int .i64 (z j)) := fun j hj => by
    obtain ⟨B, O, e, _, hc⟩ := FV (by omega)
    injection e with e
    injection e with e1 e2
    subst e1
    subst e2
    have := (hc j hj).1
    rwa [Nat.zero_add] at this
  have hne : ¬ w2.heap.size = g := by omega
  have hne' : ¬ g = w2.heap.size := by omega
  have hwg : w.heap.size ≤ g := by have := HB1.size; omega
  have hw2 : w.heap.size ≤ w2.heap.size := HB2.size
  have T1 := Lib.hid TV
  have F1 := Lib.hid FV
  have hgv : g < (w2.alloc (.cells #[.slice (some ⟨g, 0, none⟩) n cap, .int .i64 x] 24)).heap.size := by simp [World.size_alloc]; omega
  obtain ⟨p0, p1, pf0, pf1, pl⟩ := TV
  have gc := hcell (kk * 2 + 1) (by omega)
  have gf := hfz (kk * 2 + 1)
  have hbad := Lib.hid (bad0 (z := z) (x := x) kk hk2)
  have VF := Lib.hid (flat_upd (j := kk * 2 + 1) (v := 1001) FV (by omega) (by omega))
  have VO : Only g (w2.alloc (.cells #[.slice (some ⟨g, 0, none⟩) n cap, .int .i64 x] 24)) ((w2.alloc (.cells #[.slice (some ⟨g, 0, none⟩) n cap, .int .i64 x] 24)).setCell ⟨g, kk * 2 + 1, none⟩ (.int .i64 1001)) := (Only.refl _ _).setB _
  have VT := Lib.hid (T1.out.only VO hne)
  have VB := Lib.hid (HBV.out.setCell (p := ⟨g, kk * 2 + 1, none⟩) (by show w.heap.size ≤ g; omega) (.int .i64 1001))
  obtain ⟨q0, q1, qf0, qf1, ql⟩ := VT.out
  clear hrow hb2 HV FV HB2 x0 x1 xf0 xf1 xl HB1 hbd hg
  clear hfz hcell VO T1 F1 HBV hk
  have HE : Hid (((w2.alloc (.cells #[.slice (some ⟨g, 0, none⟩) n cap, .int .i64 x] 24)).setCell ⟨g, kk * 2 + 1, none⟩ (.int .i64 1001)) = ((w2.setCell ⟨g, kk * 2 + 1, none⟩ (.int .i64 1001)).alloc (.cells #[.slice (some ⟨g, 0, none⟩) n cap, .int .i64 x] 24))) := Lib.hid (by simp [go_sem, hgl, hne, hne'])
  go_wp2_with fail
  rw [← HE.out]
  refine (leap_of_no (some ⟨g, 0, none⟩) n cap x (upd z (kk * 2 + 1) 1001) _ VF.out (by omega) (fun h => by cases h) hbad.out).mono ?_; rintro e w5 ⟨rfl, hb5⟩
  have VT5 := VT.out.below hb5
  have VF5 := Lib.hid (VF.out.below hb5)
  have VB5 := VB.out.trans (hb5.mono VB.out.size)
  have hs5 : w2.heap.size < w5.heap.size := VT5.lt
  have HW : Below w5.heap.size w5 (w5.alloc (.cells #[.slice none 0 0, .int .i64 0] 24)) := by (repeat' (first | (with_reducible exact Below.refl _ _) | (with_reducible assumption) | (with_reducible refine Below.trans ?_ (Below.mono (by with_reducible assumption) ?_)) | (with_reducible refine Below.alloc ?_ ?_ _) | (with_reducible refine Below.setCell ?_ ?_ _) | (with_reducible refine below_drewN ?_ _) | (with_reducible refine Below.drew ?_) | go_size))
  have VT6 := Lib.hid (VT5.below HW)
  have VF6 := Lib.hid (VF5.out.below HW)
  have VB6 := Lib.hid (VB5.trans (HW.mono VB5.size))
  obtain ⟨r0, r1, rf0, rf1, rl⟩ := VT5.below HW
  clear hb5 VT5 VB5 HW VF5
  go_wp2_with fail
  refine (leap_print_no (some ⟨g, 0, none⟩) n cap x (upd z (kk * 2 + 1) 1001) _ VF6.out (by unfold maxLen; omega) hbad.out).mono ?_; rintro e w7 ⟨rfl, hb7⟩
  have VT7 := VT6.out.below hb7
  have VF7 := VF6.out.below hb7
  have VB7 := VB6.out.trans (hb7.mono VB6.out.size)
  obtain ⟨s0, s1, sf0, sf1, sl⟩ := VT7
  clear hb7 VT6 VF6 VB6 r0 r1 rf0 rf1 rl
  go_wp2_with fail
  refine (leap_is_no (some ⟨g, 0, none⟩) n cap x (upd z (kk * 2 + 1) 1001) _ VF7 (by unfold maxLen; omega) hbad.out).mono ?_; rintro e w8 ⟨rfl, hb8⟩
  have VB8 := VB7.trans (hb8.mono VB7.size)
  clear hb8 s0 s1 sf0 sf1 sl VF7 VB7
  go_wp2_with fail
  refine (known3 _ (HM.out.below VB8)).mono ?_; rintro e w9 ⟨rfl, hb9⟩
  have VB9 := VB8.trans (hb9.mono VB8.size)
  clear hb9 VB8
  go_wp2
  go_ret
  exact ⟨rfl, VB9⟩
set_option maxRecDepth 100000 in
set_option maxHeartbeats 4000000 in
theorem bad_w1 (ad : Addr) (n c kk : Nat) (x a b : Int) (z : Nat → Int) (w : World) (hm : Mx w) (hz : FlatAt w (some ad) 2 n z) (ht : IsTab z n x) (hk : bits .and .i64 a 65535 % (n : Int) = (kk : Nat)) (hk2 : kk < n) (hw : bits .and .i64 b 3 = 1) :
    Calls Tryd.prog 8 #[.agg #[.slice (some ad) n c, .int .i64 x], .int .i64 a, .int .i64 b] w fun e w' => e = .returned (.bool true) ∧ Below w.heap.size w w' := by
  have HB0 : Below w.heap.size w (w.alloc (.cells #[.slice (some ad) n c, .int .i64 x] 24)) := by (repeat' (first | (with_reducible exact Below.refl _ _) | (with_reducible assumption) | (with_reducible refine Below.trans ?_ (Below.mono (by with_reducible assumption) ?_)) | (with_reducible refine Below.alloc ?_ ?_ _) | (with_reducible refine Below.setCell ?_ ?_ _) | (with_reducible refine below_drewN ?_ _) | (with_reducible refine Below.drew ?_) | go_size))
  have X0 : Tb (w.alloc (.cells #[.slice (some ad) n c, .int .i64 x] 24)) w.heap.size (.slice (some ad) n c) x := ⟨by simp [go_sem], by simp [go_sem], by simp [go_sem], by simp [go_sem], by simp⟩
  have n1 : 1 ≤ n := ht.1
  have n100 : n ≤ 100 := ht.2.1
  have hbd := hz.bd
  have HM := Lib.hid hm
  have HZ := Lib.hid hz
  have HT := Lib.hid ht
  have HI := Lib.hid (ref3_is (some ad) n c x z _ true (hz.below HB0) (by unfold maxLen; omega) (by simp [ht]))
  have t1 : decide ((300 : Int) < (n : Int)) = false := by simp only [decide_eq_false_iff_not]; omega
  have t0 : ¬ (n : Int) = 0 := by omega
  have bb := bits_and_le a 65535 (by omega)
  have bb' : 0 ≤ bits .and .i64 a 65535 ∧ bits .and .i64 a 65535 ≤ 65535 := bb
  have bb0 : 0 ≤ bits .and .i64 a 65535 := bb'.1
  have bb1 : bits .and .i64 a 65535 ≤ 65535 := bb'.2
  have hkt : (bits .and .i64 a 65535).tmod (n : Int) = bits .and .i64 a 65535 % (n : Int) := Int.tmod_eq_emod_of_nonneg bb0
  rw [hk] at hkt
  have i0 : (0 : Int) ≤ (kk : Int) := by omega
  have i1 : (kk : Int) < (n : Int) := by omega
  have hkk : kk < n := by omega
  clear bb bb'
  have u1 : IntKind.i64.wrap ((n : Int) - 1) = (n : Int) - 1 := IntWalk.i64_in _ (by omega)
  have u2 : ((n : Int) - 1).toNat = n - 1 := by omega
  have u3 : (0 : Int) ≤ (n : Int) - 1 := by omega
  have u3' : (1 : Int) ≤ (n : Int) := by omega
  have u4 : (n : Int) - 1 < (n : Int) := by omega
  clear hm hz ht
  go_enter Tryd.func8, Tryd.ntmps8
  go_wp2_with fail
  refine HI.out.mono ?_; rintro e w1 ⟨rfl, hb1⟩
  have HB1 := HB0.trans (hb1.mono HB0.size)
  have X1 := X0.below hb1
  obtain ⟨x0, x1, xf0, xf1, xl⟩ := X1
  clear hb1 X0 HB0 HI
  go_wp2_with fail
  refine (own_yes ad n c x z w1 (HZ.out.below HB1) (by omega) (by omega)).mono ?_; rintro e w2 ⟨⟨g, cap, rfl, hg, hrow⟩, hb2⟩
  have HB2 := HB1.trans (hb2.mono HB1.size)
  have HV : Below w2.heap.size w2 (w2.alloc (.cells #[.slice (some ⟨g, 0, none⟩) n cap, .int .i64 x] 24)) := by (repeat' (first | (with_reducible exact Below.refl _ _) | (with_reducible assumption) | (with_reducible refine Below.trans ?_ (Below.mono (by with_reducible assumption) ?_)) | (with_reducible refine Below.alloc ?_ ?_ _) | (with_reducible refine Below.setCell ?_ ?_ _) | (with_reducible refine below_drewN ?_ _) | (with_reducible refine Below.drew ?_) | go_size))
  have HBV := Lib.hid (HB2.trans (HV.mono HB2.size))
  have hgl : g < w2.heap.size := (hrow.lt g rfl).2
  have FV : FlatAt (w2.alloc (.cells #[.slice (some ⟨g, 0, none⟩) n cap, .int .i64 x] 24)) (some ⟨g, 0, none⟩) 2 n z := by
    have h := own_flat2 hrow hbd
    obtain ⟨A', c', e, hf, _⟩ := h
    injection e with e1 e2 e3
    subst e1
    exact hf.below HV
  have hfz : ∀ o, (w2.alloc (.cells #[.slice (some ⟨g, 0, none⟩) n cap, .int .i64 x] 24)).frozen? ⟨g, o, none⟩ = false := fun o => (HV.frozen (p := ⟨g, o, none⟩) hgl).trans (by
    rcases hrow.2 with ⟨h, _⟩ | ⟨g', cap', cur, h, _, hh, _⟩
    · cases h
    · injection h with h1
      injection h1 with h1
      injection h1 with h1
      subst h1
      simp [World.frozen?, hh])
  have TV : Tb (w2.alloc (.cells #[.slice (some ⟨g, 0, none⟩) n cap, .int .i64 x] 24)) w2.heap.size (.slice (some ⟨g, 0, none⟩) n cap) x := ⟨by simp [go_sem], by simp [go_sem], by simp [go_sem], by simp [go_sem], by simp⟩
  have hcell : ∀ j, j < n * 2 → (w2.alloc (.cells #[.slice (some ⟨g, 0, none⟩) n cap, .int .i64 x] 24)).cell? ⟨g, j, none⟩ = some (.int .i64 (z j)) := fun j hj => by
    obtain ⟨B, O, e, _, hc⟩ := FV (by omega)
    injection e with e
    injection e with e1 e2
    subst e1
    subst e2
    have := (hc j hj).1
    rwa [Nat.zero_add] at this
  have hne : ¬ w2.heap.size = g := by omega
  have hne' : ¬ g = w2.heap.size := by omega
  have hwg : w.heap.size ≤ g := by have := HB1.size; omega
  have hw2 : w.heap.size ≤ w2.heap.size := HB2.size
  have T1 := Lib.hid TV
  have F1 := Lib.hid FV
  have hgv : g < (w2.alloc (.cells #[.slice (some ⟨g, 0, none⟩) n cap, .int .i64 x] 24)).heap.size := by simp [World.size_alloc]; omega
  obtain ⟨p0, p1, pf0, pf1, pl⟩ := TV
  have gc := hcell ((n - 1) * 2) (by omega)
  have hbad := Lib.hid (bad1 (z := z) (n := n))
  have VO : Only w2.heap.size (w2.alloc (.cells #[.slice (some ⟨g, 0, none⟩) n cap, .int .i64 x] 24)) ((w2.alloc (.cells #[.slice (some ⟨g, 0, none⟩) n cap, .int .i64 x] 24)).setCell ⟨w2.heap.size, 1, none⟩ (.int .i64 (z ((n - 1) * 2)))) := (Only.refl _ _).setB _
  have VF := Lib.hid (FV.only VO (fun ad h => by injection h with h; subst h; exact hne'))
  have VT : Hid (Tb ((w2.alloc (.cells #[.slice (some ⟨g, 0, none⟩) n cap, .int .i64 x] 24)).setCell ⟨w2.heap.size, 1, none⟩ (.int .i64 (z ((n - 1) * 2)))) w2.heap.size (.slice (some ⟨g, 0, none⟩) n cap) (z ((n - 1) * 2))) := T1.out.set1 _
  have VB := Lib.hid (HBV.out.setCell (p := ⟨w2.heap.size, 1, none⟩) (by show w.heap.size ≤ w2.heap.size; omega) (.int .i64 (z ((n - 1) * 2))))
  obtain ⟨q0, q1, qf0, qf1, ql⟩ := VT.out
  clear hrow hb2 HV FV HB2 x0 x1 xf0 xf1 xl HB1 hbd hg
  clear hfz hcell VO T1 F1 HBV hk
  have HE : Hid (((w2.alloc (.cells #[.slice (some ⟨g, 0, none⟩) n cap, .int .i64 x] 24)).setCell ⟨w2.heap.size, 1, none⟩ (.int .i64 (z ((n - 1) * 2)))) = (w2.alloc (.cells #[.slice (some ⟨g, 0, none⟩) n cap, .int .i64 (z ((n - 1) * 2))] 24))) := Lib.hid (by simp [go_sem, hgl, hne, hne'])
  go_wp2_with fail
  rw [← HE.out]
  refine (leap_of_no (some ⟨g, 0, none⟩) n cap (z ((n - 1) * 2)) z _ VF.out (by omega) (fun h => by cases h) hbad.out).mono ?_; rintro e w5 ⟨rfl, hb5⟩
  have VT5 := VT.out.below hb5
  have VF5 := Lib.hid (VF.out.below hb5)
  have VB5 := VB.out.trans (hb5.mono VB.out.size)
  have hs5 : w2.heap.size < w5.heap.size := VT5.lt
  have HW : Below w5.heap.size w5 (w5.alloc (.cells #[.slice none 0 0, .int .i64 0] 24)) := by (repeat' (first | (with_reducible exact Below.refl _ _) | (with_reducible assumption) | (with_reducible refine Below.trans ?_ (Below.mono (by with_reducible assumption) ?_)) | (with_reducible refine Below.alloc ?_ ?_ _) | (with_reducible refine Below.setCell ?_ ?_ _) | (with_reducible refine below_drewN ?_ _) | (with_reducible refine Below.drew ?_) | go_size))
  have VT6 := Lib.hid (VT5.below HW)
  have VF6 := Lib.hid (VF5.out.below HW)
  have VB6 := Lib.hid (VB5.trans (HW.mono VB5.size))
  obtain ⟨r0, r1, rf0, rf1, rl⟩ := VT5.below HW
  clear hb5 VT5 VB5 HW VF5
  go_wp2_with fail
  refine (leap_print_no (some ⟨g, 0, none⟩) n cap (z ((n - 1) * 2)) z _ VF6.out (by unfold maxLen; omega) hbad.out).mono ?_; rintro e w7 ⟨rfl, hb7⟩
  have VT7 := VT6.out.below hb7
  have VF7 := VF6.out.below hb7
  have VB7 := VB6.out.trans (hb7.mono VB6.out.size)
  obtain ⟨s0, s1, sf0, sf1, sl⟩ := VT7
  clear hb7 VT6 VF6 VB6 r0 r1 rf0 rf1 rl
  go_wp2_with fail
  refine (leap_is_no (some ⟨g, 0, none⟩) n cap (z ((n - 1) * 2)) z _ VF7 (by unfold maxLen; omega) hbad.out).mono ?_; rintro e w8 ⟨rfl, hb8⟩
  have VB8 := VB7.trans (hb8.mono VB7.size)
  clear hb8 s0 s1 sf0 sf1 sl VF7 VB7
  go_wp2_with fail
  refine (known3 _ (HM.out.below VB8)).mono ?_; rintro e w9 ⟨rfl, hb9⟩
  have VB9 := VB8.trans (hb9.mono VB8.size)
  clear hb9 VB8
  go_wp2
  go_ret
  exact ⟨rfl, VB9⟩
set_option maxRecDepth 100000 in
set_option maxHeartbeats 4000000 in
theorem bad_w2 (ad : Addr) (n c mm : Nat) (x a b : Int) (z : Nat → Int) (w : World) (hm : Mx w) (hz : FlatAt w (some ad) 2 n z) (ht : IsTab z n x) (hk : bits .and .i64 a 65535 % ((n : Int) - 1) = (mm : Nat)) (hk2 : mm + 1 < n) (hw : bits .and .i64 b 3 = 2) :
    Calls Tryd.prog 8 #[.agg #[.slice (some ad) n c, .int .i64 x], .int .i64 a, .int .i64 b] w fun e w' => e = .returned (.bool true) ∧ Below w.heap.size w w' := by
  have HB0 : Below w.heap.size w (w.alloc (.cells #[.slice (some ad) n c, .int .i64 x] 24)) := by (repeat' (first | (with_reducible exact Below.refl _ _) | (with_reducible assumption) | (with_reducible refine Below.trans ?_ (Below.mono (by with_reducible assumption) ?_)) | (with_reducible refine Below.alloc ?_ ?_ _) | (with_reducible refine Below.setCell ?_ ?_ _) | (with_reducible refine below_drewN ?_ _) | (with_reducible refine Below.drew ?_) | go_size))
  have X0 : Tb (w.alloc (.cells #[.slice (some ad) n c, .int .i64 x] 24)) w.heap.size (.slice (some ad) n c) x := ⟨by simp [go_sem], by simp [go_sem], by simp [go_sem], by simp [go_sem], by simp⟩
  have n1 : 1 ≤ n := ht.1
  have n100 : n ≤ 100 := ht.2.1
  have hbd := hz.bd
  have HM := Lib.hid hm
  have HZ := Lib.hid hz
  have HT := Lib.hid ht
  have HI := Lib.hid (ref3_is (some ad) n c x z _ true (hz.below HB0) (by unfold maxLen; omega) (by simp [ht]))
  have t1 : decide ((300 : Int) < (n : Int)) = false := by simp only [decide_eq_false_iff_not]; omega
  have t0 : ¬ (n : Int) = 0 := by omega
  have bb := bits_and_le a 65535 (by omega)
  have bb' : 0 ≤ bits .and .i64 a 65535 ∧ bits .and .i64 a 65535 ≤ 65535 := bb
  have bb0 : 0 ≤ bits .and .i64 a 65535 := bb'.1
  have bb1 : bits .and .i64 a 65535 ≤ 65535 := bb'.2
  obtain ⟨kk, hkk⟩ := Int.eq_ofNat_of_zero_le (Int.emod_nonneg (bits .and .i64 a 65535) (show (n : Int) ≠ 0 by omega))
  have hkt : (bits .and .i64 a 65535).tmod (n : Int) = (kk : Int) := (Int.tmod_eq_emod_of_nonneg bb0).trans hkk
  have hmt : (bits .and .i64 a 65535).tmod ((n : Int) - 1) = (mm : Int) := (Int.tmod_eq_emod_of_nonneg bb0).trans hk
  have t2 : decide ((n : Int) < 2) = false := by simp only [decide_eq_false_iff_not]; omega
  have t3 : ¬ (n : Int) - 1 = 0 := by omega
  have u1 : IntKind.i64.wrap ((n : Int) - 1) = (n : Int) - 1 := IntWalk.i64_in _ (by omega)
  have u2 : IntKind.i64.wrap (1 + (mm : Int)) = (mm : Int) + 1 := (IntWalk.i64_in (1 + (mm : Int)) (by omega)).trans (Int.add_comm _ _)
  have u3 : (0 : Int) ≤ (mm : Int) + 1 := by omega
  have u4 : (mm : Int) + 1 < (n : Int) := by omega
  have u5 : ((mm : Int) + 1).toNat = mm + 1 := by omega
  have u6 : IntKind.i64.wrap ((mm : Int) + 1 - 1) = (mm : Int) := by rw [show (mm : Int) + 1 - 1 = (mm : Int) from by omega]; exact IntWalk.i64_in _ (by omega)
  have u7 : (0 : Int) ≤ (mm : Int) := by omega
  have u8 : (mm : Int) < (n : Int) := by omega
  have u9 : IntKind.i64.wrap (mm : Int) = (mm : Int) := IntWalk.i64_in _ (by omega)
  clear bb bb' hkk
  have zb := (ht.2.2.1 (mm + 1) hk2)
  have zb1 := zb.1
  have zb2 := zb.2.1
  have u10 : IntKind.i64.wrap (z ((mm + 1) * 2) + 1) = z ((mm + 1) * 2) + 1 := IntWalk.i64_in _ (by omega)
  clear zb
  clear hm hz ht
  go_enter Tryd.func8, Tryd.ntmps8
  go_wp2_with fail
  refine HI.out.mono ?_; rintro e w1 ⟨rfl, hb1⟩
  have HB1 := HB0.trans (hb1.mono HB0.size)
  have X1 := X0.below hb1
  obtain ⟨x0, x1, xf0, xf1, xl⟩ := X1
  clear hb1 X0 HB0 HI
  go_wp2_with fail
  refine (own_yes ad n c x z w1 (HZ.out.below HB1) (by omega) (by omega)).mono ?_; rintro e w2 ⟨⟨g, cap, rfl, hg, hrow⟩, hb2⟩
  have HB2 := HB1.trans (hb2.mono HB1.size)
  have HV : Below w2.heap.size w2 (w2.alloc (.cells #[.slice (some ⟨g, 0, none⟩) n cap, .int .i64 x] 24)) := by (repeat' (first | (with_reducible exact Below.refl _ _) | (with_reducible assumption) | (with_reducible refine Below.trans ?_ (Below.mono (by with_reducible assumption) ?_)) | (with_reducible refine Below.alloc ?_ ?_ _) | (with_reducible refine Below.setCell ?_ ?_ _) | (with_reducible refine below_drewN ?_ _) | (with_reducible refine Below.drew ?_) | go_size))
  have HBV := Lib.hid (HB2.trans (HV.mono HB2.size))
  have hgl : g < w2.heap.size := (hrow.lt g rfl).2
  have FV : FlatAt (w2.alloc (.cells #[.slice (some ⟨g, 0, none⟩) n cap, .int .i64 x] 24)) (some ⟨g, 0, none⟩) 2 n z := by
    have h := own_flat2 hrow hbd
    obtain ⟨A', c', e, hf, _⟩ := h
    injection e with e1 e2 e3
    subst e1
    exact hf.below HV
  have hfz : ∀ o, (w2.alloc (.cells #[.slice (some ⟨g, 0, none⟩) n cap, .int .i64 x] 24)).frozen? ⟨g, o, none⟩ = false := fun o => (HV.frozen (p := ⟨g, o, none⟩) hgl).trans (by
    rcases hrow.2 with ⟨h, _⟩ | ⟨g', cap', cur, h, _, hh, _⟩
    · cases h
    · injection h with h1
      injection h1 with h1
      injection h1 with h1
      subst h1
      simp [World.frozen?, hh])
  have TV : Tb (w2.alloc (.cells #[.slice (some ⟨g, 0, none⟩) n cap, .int .i64 x] 24)) w2.heap.size (.slice (some ⟨g, 0, none⟩) n cap) x := ⟨by simp [go_sem], by simp [go_sem], by simp [go_sem], by simp [go_sem], by simp⟩
  have hcell : ∀ j, j < n * 2 → (w2.alloc (.cells #[.slice (some ⟨g, 0, none⟩) n cap, .int .i64 x] 24)).cell? ⟨g, j, none⟩ = some (.int .i64 (z j)) := fun j hj => by
    obtain ⟨B, O, e, _, hc⟩ := FV (by omega)
    injection e with e
    injection e with e1 e2
    subst e1
    subst e2
    have := (hc j hj).1
    rwa [Nat.zero_add] at this
  have hne : ¬ w2.heap.size = g := by omega
  have hne' : ¬ g = w2.heap.size := by omega
  have hwg : w.heap.size ≤ g := by have := HB1.size; omega
  have hw2 : w.heap.size ≤ w2.heap.size := HB2.size
  have T1 := Lib.hid TV
  have F1 := Lib.hid FV
  have hgv : g < (w2.alloc (.cells #[.slice (some ⟨g, 0, none⟩) n cap, .int .i64 x] 24)).heap.size := by simp [World.size_alloc]; omega
  obtain ⟨p0, p1, pf0, pf1, pl⟩ := TV
  have gc := hcell ((mm + 1) * 2) (by omega)
  have gf := hfz ((mm + 1) * 2)
  have hbad := Lib.hid (bad2 HT.out mm hk2)
  have VF0 := flat_upd (j := (mm + 1) * 2) (v := (z ((mm + 1) * 2) + 1)) FV (by omega) (by omega)
  have VO : Only g (w2.alloc (.cells #[.slice (some ⟨g, 0, none⟩) n cap, .int .i64 x] 24)) ((w2.alloc (.cells #[.slice (some ⟨g, 0, none⟩) n cap, .int .i64 x] 24)).setCell ⟨g, (mm + 1) * 2, none⟩ (.int .i64 (z ((mm + 1) * 2) + 1))) := (Only.refl _ _).setB _
  have VT0 := T1.out.only VO hne
  have VB0 := HBV.out.setCell (p := ⟨g, (mm + 1) * 2, none⟩) (by show w.heap.size ≤ g; omega) (.int .i64 (z ((mm + 1) * 2) + 1))
  have HD : Below ((w2.alloc (.cells #[.slice (some ⟨g, 0, none⟩) n cap, .int .i64 x] 24)).setCell ⟨g, (mm + 1) * 2, none⟩ (.int .i64 (z ((mm + 1) * 2) + 1))).heap.size ((w2.alloc (.cells #[.slice (some ⟨g, 0, none⟩) n cap, .int .i64 x] 24)).setCell ⟨g, (mm + 1) * 2, none⟩ (.int .i64 (z ((mm + 1) * 2) + 1))) ((w2.alloc (.cells #[.slice (some ⟨g, 0, none⟩) n cap, .int .i64 x] 24)).setCell ⟨g, (mm + 1) * 2, none⟩ (.int .i64 (z ((mm + 1) * 2) + 1))).drew := ⟨rfl, rfl, rfl, Nat.le_refl _, fun _ _ => rfl⟩
  have VF := Lib.hid (VF0.below HD)
  have VT := Lib.hid (VT0.below HD)
  have VB := Lib.hid (VB0.trans (HD.mono VB0.size))
  clear hrow hb2 HV FV HB2 x0 x1 xf0 xf1 xl HB1 hbd hg
  clear hfz hcell VO VF0 VT0 VB0 HD T1 F1 HBV hk
  have HE : Hid (((w2.alloc (.cells #[.slice (some ⟨g, 0, none⟩) n cap, .int .i64 x] 24)).setCell ⟨g, (mm + 1) * 2, none⟩ (.int .i64 (z ((mm + 1) * 2) + 1))).drew = ((w2.setCell ⟨g, (mm + 1) * 2, none⟩ (.int .i64 (z ((mm + 1) * 2) + 1))).alloc (.cells #[.slice (some ⟨g, 0, none⟩) n cap, .int .i64 x] 24)).drew) := Lib.hid (by simp [go_sem, hgl, hne, hne'])
  go_wp2_with fail
  go_region
  all_goals
    go_wp2_with fail
    rw [← HE.out]
    refine (leap_of_no (some ⟨g, 0, none⟩) n cap x (upd z ((mm + 1) * 2) (z ((mm + 1) * 2) + 1)) _ VF.out (by omega) (fun h => by cases h) hbad.out).mono ?_; rintro e w5 ⟨rfl, hb5⟩
    have VT5 := VT.out.below hb5
    have VF5 := Lib.hid (VF.out.below hb5)
    have VB5 := VB.out.trans (hb5.mono VB.out.size)
    have hs5 : w2.heap.size < w5.heap.size := VT5.lt
    have HW : Below w5.heap.size w5 (w5.alloc (.cells #[.slice none 0 0, .int .i64 0] 24)) := by (repeat' (first | (with_reducible exact Below.refl _ _) | (with_reducible assumption) | (with_reducible refine Below.trans ?_ (Below.mono (by with_reducible assumption) ?_)) | (with_reducible refine Below.alloc ?_ ?_ _) | (with_reducible refine Below.setCell ?_ ?_ _) | (with_reducible refine below_drewN ?_ _) | (with_reducible refine Below.drew ?_) | go_size))
    have VT6 := Lib.hid (VT5.below HW)
    have VF6 := Lib.hid (VF5.out.below HW)
    have VB6 := Lib.hid (VB5.trans (HW.mono VB5.size))
    obtain ⟨r0, r1, rf0, rf1, rl⟩ := VT5.below HW
    clear hb5 VT5 VB5 HW VF5
    go_wp2_with fail
    refine (leap_print_no (some ⟨g, 0, none⟩) n cap x (upd z ((mm + 1) * 2) (z ((mm + 1) * 2) + 1)) _ VF6.out (by unfold maxLen; omega) hbad.out).mono ?_; rintro e w7 ⟨rfl, hb7⟩
    have VT7 := VT6.out.below hb7
    have VF7 := VF6.out.below hb7
    have VB7 := VB6.out.trans (hb7.mono VB6.out.size)
    obtain ⟨s0, s1, sf0, sf1, sl⟩ := VT7
    clear hb7 VT6 VF6 VB6 r0 r1 rf0 rf1 rl
    go_wp2_with fail
    refine (leap_is_no (some ⟨g, 0, none⟩) n cap x (upd z ((mm + 1) * 2) (z ((mm + 1) * 2) + 1)) _ VF7 (by unfold maxLen; omega) hbad.out).mono ?_; rintro e w8 ⟨rfl, hb8⟩
    have VB8 := VB7.trans (hb8.mono VB7.size)
    clear hb8 s0 s1 sf0 sf1 sl VF7 VB7
    go_wp2_with fail
    refine (known3 _ (HM.out.below VB8)).mono ?_; rintro e w9 ⟨rfl, hb9⟩
    have VB9 := VB8.trans (hb9.mono VB8.size)
    clear hb9 VB8
    go_wp2
    go_ret
    exact ⟨rfl, VB9⟩
set_option maxRecDepth 100000 in
set_option maxHeartbeats 4000000 in
theorem bad_w3 (ad : Addr) (n c mm : Nat) (x a b : Int) (z : Nat → Int) (w : World) (hm : Mx w) (hz : FlatAt w (some ad) 2 n z) (ht : IsTab z n x) (hk : bits .and .i64 a 65535 % ((n : Int) - 1) = (mm : Nat)) (hk2 : mm + 1 < n) (hw : bits .and .i64 b 3 = 3) :
    Calls Tryd.prog 8 #[.agg #[.slice (some ad) n c, .int .i64 x], .int .i64 a, .int .i64 b] w fun e w' => e = .returned (.bool true) ∧ Below w.heap.size w w' := by
  have HB0 : Below w.heap.size w (w.alloc (.cells #[.slice (some ad) n c, .int .i64 x] 24)) := by (repeat' (first | (with_reducible exact Below.refl _ _) | (with_reducible assumption) | (with_reducible refine Below.trans ?_ (Below.mono (by with_reducible assumption) ?_)) | (with_reducible refine Below.alloc ?_ ?_ _) | (with_reducible refine Below.setCell ?_ ?_ _) | (with_reducible refine below_drewN ?_ _) | (with_reducible refine Below.drew ?_) | go_size))
  have X0 : Tb (w.alloc (.cells #[.slice (some ad) n c, .int .i64 x] 24)) w.heap.size (.slice (some ad) n c) x := ⟨by simp [go_sem], by simp [go_sem], by simp [go_sem], by simp [go_sem], by simp⟩
  have n1 : 1 ≤ n := ht.1
  have n100 : n ≤ 100 := ht.2.1
  have hbd := hz.bd
  have HM := Lib.hid hm
  have HZ := Lib.hid hz
  have HT := Lib.hid ht
  have HI := Lib.hid (ref3_is (some ad) n c x z _ true (hz.below HB0) (by unfold maxLen; omega) (by simp [ht]))
  have t1 : decide ((300 : Int) < (n : Int)) = false := by simp only [decide_eq_false_iff_not]; omega
  have t0 : ¬ (n : Int) = 0 := by omega
  have bb := bits_and_le a 65535 (by omega)
  have bb' : 0 ≤ bits .and .i64 a 65535 ∧ bits .and .i64 a 65535 ≤ 65535 := bb
  have bb0 : 0 ≤ bits .and .i64 a 65535 := bb'.1
  have bb1 : bits .and .i64 a 65535 ≤ 65535 := bb'.2
  obtain ⟨kk, hkk⟩ := Int.eq_ofNat_of_zero_le (Int.emod_nonneg (bits .and .i64 a 65535) (show (n : Int) ≠ 0 by omega))
  have hkt : (bits .and .i64 a 65535).tmod (n : Int) = (kk : Int) := (Int.tmod_eq_emod_of_nonneg bb0).trans hkk
  have hmt : (bits .and .i64 a 65535).tmod ((n : Int) - 1) = (mm : Int) := (Int.tmod_eq_emod_of_nonneg bb0).trans hk
  have t2 : decide ((n : Int) < 2) = false := by simp only [decide_eq_false_iff_not]; omega
  have t3 : ¬ (n : Int) - 1 = 0 := by omega
  have u1 : IntKind.i64.wrap ((n : Int) - 1) = (n : Int) - 1 := IntWalk.i64_in _ (by omega)
  have u2 : IntKind.i64.wrap (1 + (mm : Int)) = (mm : Int) + 1 := (IntWalk.i64_in (1 + (mm : Int)) (by omega)).trans (Int.add_comm _ _)
  have u3 : (0 : Int) ≤ (mm : Int) + 1 := by omega
  have u4 : (mm : Int) + 1 < (n : Int) := by omega
  have u5 : ((mm : Int) + 1).toNat = mm + 1 := by omega
  have u6 : IntKind.i64.wrap ((mm : Int) + 1 - 1) = (mm : Int) := by rw [show (mm : Int) + 1 - 1 = (mm : Int) from by omega]; exact IntWalk.i64_in _ (by omega)
  have u7 : (0 : Int) ≤ (mm : Int) := by omega
  have u8 : (mm : Int) < (n : Int) := by omega
  have u9 : IntKind.i64.wrap (mm : Int) = (mm : Int) := IntWalk.i64_in _ (by omega)
  clear bb bb' hkk
  have zb := (ht.2.2.1 mm (by omega))
  have zb1 := zb.2.2.1
  have zb2 := zb.2.2.2.1
  clear zb
  clear hm hz ht
  go_enter Tryd.func8, Tryd.ntmps8
  go_wp2_with fail
  refine HI.out.mono ?_; rintro e w1 ⟨rfl, hb1⟩
  have HB1 := HB0.trans (hb1.mono HB0.size)
  have X1 := X0.below hb1
  obtain ⟨x0, x1, xf0, xf1, xl⟩ := X1
  clear hb1 X0 HB0 HI
  go_wp2_with fail
  refine (own_yes ad n c x z w1 (HZ.out.below HB1) (by omega) (by omega)).mono ?_; rintro e w2 ⟨⟨g, cap, rfl, hg, hrow⟩, hb2⟩
  have HB2 := HB1.trans (hb2.mono HB1.size)
  have HV : Below w2.heap.size w2 (w2.alloc (.cells #[.slice (some ⟨g, 0, none⟩) n cap, .int .i64 x] 24)) := by (repeat' (first | (with_reducible exact Below.refl _ _) | (with_reducible assumption) | (with_reducible refine Below.trans ?_ (Below.mono (by with_reducible assumption) ?_)) | (with_reducible refine Below.alloc ?_ ?_ _) | (with_reducible refine Below.setCell ?_ ?_ _) | (with_reducible refine below_drewN ?_ _) | (with_reducible refine Below.drew ?_) | go_size))
  have HBV := Lib.hid (HB2.trans (HV.mono HB2.size))
  have hgl : g < w2.heap.size := (hrow.lt g rfl).2
  have FV : FlatAt (w2.alloc (.cells #[.slice (some ⟨g, 0, none⟩) n cap, .int .i64 x] 24)) (some ⟨g, 0, none⟩) 2 n z := by
    have h := own_flat2 hrow hbd
    obtain ⟨A', c', e, hf, _⟩ := h
    injection e with e1 e2 e3
    subst e1
    exact hf.below HV
  have hfz : ∀ o, (w2.alloc (.cells #[.slice (some ⟨g, 0, none⟩) n cap, .int .i64 x] 24)).frozen? ⟨g, o, none⟩ = false := fun o => (HV.frozen (p := ⟨g, o, none⟩) hgl).trans (by
    rcases hrow.2 with ⟨h, _⟩ | ⟨g', cap', cur, h, _, hh, _⟩
    · cases h
    · injection h with h1
      injection h1 with h1
      injection h1 with h1
      subst h1
      simp [World.frozen?, hh])
  have TV : Tb (w2.alloc (.cells #[.slice (some ⟨g, 0, none⟩) n cap, .int .i64 x] 24)) w2.heap.size (.slice (some ⟨g, 0, none⟩) n cap) x := ⟨by simp [go_sem], by simp [go_sem], by simp [go_sem], by simp [go_sem], by simp⟩
  have hcell : ∀ j, j < n * 2 → (w2.alloc (.cells #[.slice (some ⟨g, 0, none⟩) n cap, .int .i64 x] 24)).cell? ⟨g, j, none⟩ = some (.int .i64 (z j)) := fun j hj => by
    obtain ⟨B, O, e, _, hc⟩ := FV (by omega)
    injection e with e
    injection e with e1 e2
    subst e1
    subst e2
    have := (hc j hj).1
    rwa [Nat.zero_add] at this
  have hne : ¬ w2.heap.size = g := by omega
  have hne' : ¬ g = w2.heap.size := by omega
  have hwg : w.heap.size ≤ g := by have := HB1.size; omega
  have hw2 : w.heap.size ≤ w2.heap.size := HB2.size
  have T1 := Lib.hid TV
  have F1 := Lib.hid FV
  have hgv : g < (w2.alloc (.cells #[.slice (some ⟨g, 0, none⟩) n cap, .int .i64 x] 24)).heap.size := by simp [World.size_alloc]; omega
  obtain ⟨p0, p1, pf0, pf1, pl⟩ := TV
  have gc := hcell ((mm + 1) * 2 + 1) (by omega)
  have gf := hfz ((mm + 1) * 2 + 1)
  have gd := hcell (mm * 2 + 1) (by omega)
  have hbad := Lib.hid (bad3 (z := z) (x := x) mm hk2)
  have VF0 := flat_upd (j := (mm + 1) * 2 + 1) (v := (z (mm * 2 + 1))) FV (by omega) (by omega)
  have VO : Only g (w2.alloc (.cells #[.slice (some ⟨g, 0, none⟩) n cap, .int .i64 x] 24)) ((w2.alloc (.cells #[.slice (some ⟨g, 0, none⟩) n cap, .int .i64 x] 24)).setCell ⟨g, (mm + 1) * 2 + 1, none⟩ (.int .i64 (z (mm * 2 + 1)))) := (Only.refl _ _).setB _
  have VT0 := T1.out.only VO hne
  have VB0 := HBV.out.setCell (p := ⟨g, (mm + 1) * 2 + 1, none⟩) (by show w.heap.size ≤ g; omega) (.int .i64 (z (mm * 2 + 1)))
  have HD : Below ((w2.alloc (.cells #[.slice (some ⟨g, 0, none⟩) n cap, .int .i64 x] 24)).setCell ⟨g, (mm + 1) * 2 + 1, none⟩ (.int .i64 (z (mm * 2 + 1)))).heap.size ((w2.alloc (.cells #[.slice (some ⟨g, 0, none⟩) n cap, .int .i64 x] 24)).setCell ⟨g, (mm + 1) * 2 + 1, none⟩ (.int .i64 (z (mm * 2 + 1)))) ((w2.alloc (.cells #[.slice (some ⟨g, 0, none⟩) n cap, .int .i64 x] 24)).setCell ⟨g, (mm + 1) * 2 + 1, none⟩ (.int .i64 (z (mm * 2 + 1)))).drew := ⟨rfl, rfl, rfl, Nat.le_refl _, fun _ _ => rfl⟩
  have VF := Lib.hid (VF0.below HD)
  have VT := Lib.hid (VT0.below HD)
  have VB := Lib.hid (VB0.trans (HD.mono VB0.size))
  clear hrow hb2 HV FV HB2 x0 x1 xf0 xf1 xl HB1 hbd hg
  clear hfz hcell VO VF0 VT0 VB0 HD T1 F1 HBV hk
  have HE : Hid (((w2.alloc (.cells #[.slice (some ⟨g, 0, none⟩) n cap, .int .i64 x] 24)).setCell ⟨g, (mm + 1) * 2 + 1, none⟩ (.int .i64 (z (mm * 2 + 1)))).drew = ((w2.setCell ⟨g, (mm + 1) * 2 + 1, none⟩ (.int .i64 (z (mm * 2 + 1)))).alloc (.cells #[.slice (some ⟨g, 0, none⟩) n cap, .int .i64 x] 24)).drew) := Lib.hid (by simp [go_sem, hgl, hne, hne'])
  go_wp2_with fail
  go_region
  all_goals
    go_wp2_with fail
    rw [← HE.out]
    refine (leap_of_no (some ⟨g, 0, none⟩) n cap x (upd z ((mm + 1) * 2 + 1) (z (mm * 2 + 1))) _ VF.out (by omega) (fun h => by cases h) hbad.out).mono ?_; rintro e w5 ⟨rfl, hb5⟩
    have VT5 := VT.out.below hb5
    have VF5 := Lib.hid (VF.out.below hb5)
    have VB5 := VB.out.trans (hb5.mono VB.out.size)
    have hs5 : w2.heap.size < w5.heap.size := VT5.lt
    have HW : Below w5.heap.size w5 (w5.alloc (.cells #[.slice none 0 0, .int .i64 0] 24)) := by (repeat' (first | (with_reducible exact Below.refl _ _) | (with_reducible assumption) | (with_reducible refine Below.trans ?_ (Below.mono (by with_reducible assumption) ?_)) | (with_reducible refine Below.alloc ?_ ?_ _) | (with_reducible refine Below.setCell ?_ ?_ _) | (with_reducible refine below_drewN ?_ _) | (with_reducible refine Below.drew ?_) | go_size))
    have VT6 := Lib.hid (VT5.below HW)
    have VF6 := Lib.hid (VF5.out.below HW)
    have VB6 := Lib.hid (VB5.trans (HW.mono VB5.size))
    obtain ⟨r0, r1, rf0, rf1, rl⟩ := VT5.below HW
    clear hb5 VT5 VB5 HW VF5
    go_wp2_with fail
    refine (leap_print_no (some ⟨g, 0, none⟩) n cap x (upd z ((mm + 1) * 2 + 1) (z (mm * 2 + 1))) _ VF6.out (by unfold maxLen; omega) hbad.out).mono ?_; rintro e w7 ⟨rfl, hb7⟩
    have VT7 := VT6.out.below hb7
    have VF7 := VF6.out.below hb7
    have VB7 := VB6.out.trans (hb7.mono VB6.out.size)
    obtain ⟨s0, s1, sf0, sf1, sl⟩ := VT7
    clear hb7 VT6 VF6 VB6 r0 r1 rf0 rf1 rl
    go_wp2_with fail
    refine (leap_is_no (some ⟨g, 0, none⟩) n cap x (upd z ((mm + 1) * 2 + 1) (z (mm * 2 + 1))) _ VF7 (by unfold maxLen; omega) hbad.out).mono ?_; rintro e w8 ⟨rfl, hb8⟩
    have VB8 := VB7.trans (hb8.mono VB7.size)
    clear hb8 s0 s1 sf0 sf1 sl VF7 VB7
    go_wp2_with fail
    refine (known3 _ (HM.out.below VB8)).mono ?_; rintro e w9 ⟨rfl, hb9⟩
    have VB9 := VB8.trans (hb9.mono VB8.size)
    clear hb9 VB8
    go_wp2
    go_ret
    exact ⟨rfl, VB9⟩
set_option maxRecDepth 100000 in
set_option maxHeartbeats 4000000 in
theorem bad_s2 (ad : Addr) (n c : Nat) (x a b : Int) (z : Nat → Int) (w : World) (hm : Mx w) (hz : FlatAt w (some ad) 2 n z) (ht : IsTab z n x) (hn1 : n = 1) (hw : bits .and .i64 b 3 = 2) :
    Calls Tryd.prog 8 #[.agg #[.slice (some ad) n c, .int .i64 x], .int .i64 a, .int .i64 b] w fun e w' => e = .returned (.bool true) ∧ Below w.heap.size w w' := by
  have HB0 : Below w.heap.size w (w.alloc (.cells #[.slice (some ad) n c, .int .i64 x] 24)) := by (repeat' (first | (with_reducible exact Below.refl _ _) | (with_reducible assumption) | (with_reducible refine Below.trans ?_ (Below.mono (by with_reducible assumption) ?_)) | (with_reducible refine Below.alloc ?_ ?_ _) | (with_reducible refine Below.setCell ?_ ?_ _) | (with_reducible refine below_drewN ?_ _) | (with_reducible refine Below.drew ?_) | go_size))
  have X0 : Tb (w.alloc (.cells #[.slice (some ad) n c, .int .i64 x] 24)) w.heap.size (.slice (some ad) n c) x := ⟨by simp [go_sem], by simp [go_sem], by simp [go_sem], by simp [go_sem], by simp⟩
  have n1 : 1 ≤ n := ht.1
  have n100 : n ≤ 100 := ht.2.1
  have hbd := hz.bd
  have HM := Lib.hid hm
  have HZ := Lib.hid hz
  have HT := Lib.hid ht
  have HI := Lib.hid (ref3_is (some ad) n c x z _ true (hz.below HB0) (by unfold maxLen; omega) (by simp [ht]))
  have t1 : decide ((300 : Int) < (n : Int)) = false := by simp only [decide_eq_false_iff_not]; omega
  have t0 : ¬ (n : Int) = 0 := by omega
  have bb := bits_and_le a 65535 (by omega)
  have bb' : 0 ≤ bits .and .i64 a 65535 ∧ bits .and .i64 a 65535 ≤ 65535 := bb
  have bb0 : 0 ≤ bits .and .i64 a 65535 := bb'.1
  have bb1 : bits .and .i64 a 65535 ≤ 65535 := bb'.2
  obtain ⟨kk, hkk⟩ := Int.eq_ofNat_of_zero_le (Int.emod_nonneg (bits .and .i64 a 65535) (show (n : Int) ≠ 0 by omega))
  have hkt : (bits .and .i64 a 65535).tmod (n : Int) = (kk : Int) := (Int.tmod_eq_emod_of_nonneg bb0).trans hkk
  have t2 : decide ((n : Int) < 2) = true := by simp only [decide_eq_true_eq]; omega
  clear bb bb' hkk hn1
  clear hm hz ht
  go_enter Tryd.func8, Tryd.ntmps8
  go_wp2_with fail
  refine HI.out.mono ?_; rintro e w1 ⟨rfl, hb1⟩
  have HB1 := HB0.trans (hb1.mono HB0.size)
  have X1 := X0.below hb1
  obtain ⟨x0, x1, xf0, xf1, xl⟩ := X1
  clear hb1 X0 HB0 HI
  go_wp2_with fail
  refine (own_yes ad n c x z w1 (HZ.out.below HB1) (by omega) (by omega)).mono ?_; rintro e w2 ⟨⟨g, cap, rfl, hg, hrow⟩, hb2⟩
  have HB2 := HB1.trans (hb2.mono HB1.size)
  have HV : Below w2.heap.size w2 (w2.alloc (.cells #[.slice (some ⟨g, 0, none⟩) n cap, .int .i64 x] 24)) := by (repeat' (first | (with_reducible exact Below.refl _ _) | (with_reducible assumption) | (with_reducible refine Below.trans ?_ (Below.mono (by with_reducible assumption) ?_)) | (with_reducible refine Below.alloc ?_ ?_ _) | (with_reducible refine Below.setCell ?_ ?_ _) | (with_reducible refine below_drewN ?_ _) | (with_reducible refine Below.drew ?_) | go_size))
  have HBV := Lib.hid (HB2.trans (HV.mono HB2.size))
  have hgl : g < w2.heap.size := (hrow.lt g rfl).2
  have FV : FlatAt (w2.alloc (.cells #[.slice (some ⟨g, 0, none⟩) n cap, .int .i64 x] 24)) (some ⟨g, 0, none⟩) 2 n z := by
    have h := own_flat2 hrow hbd
    obtain ⟨A', c', e, hf, _⟩ := h
    injection e with e1 e2 e3
    subst e1
    exact hf.below HV
  have hfz : ∀ o, (w2.alloc (.cells #[.slice (some ⟨g, 0, none⟩) n cap, .int .i64 x] 24)).frozen? ⟨g, o, none⟩ = false := fun o => (HV.frozen (p := ⟨g, o, none⟩) hgl).trans (by
    rcases hrow.2 with ⟨h, _⟩ | ⟨g', cap', cur, h, _, hh, _⟩
    · cases h
    · injection h with h1
      injection h1 with h1
      injection h1 with h1
      subst h1
      simp [World.frozen?, hh])
  have TV : Tb (w2.alloc (.cells #[.slice (some ⟨g, 0, none⟩) n cap, .int .i64 x] 24)) w2.heap.size (.slice (some ⟨g, 0, none⟩) n cap) x := ⟨by simp [go_sem], by simp [go_sem], by simp [go_sem], by simp [go_sem], by simp⟩
  have hcell : ∀ j, j < n * 2 → (w2.alloc (.cells #[.slice (some ⟨g, 0, none⟩) n cap, .int .i64 x] 24)).cell? ⟨g, j, none⟩ = some (.int .i64 (z j)) := fun j hj => by
    obtain ⟨B, O, e, _, hc⟩ := FV (by omega)
    injection e with e
    injection e with e1 e2
    subst e1
    subst e2
    have := (hc j hj).1
    rwa [Nat.zero_add] at this
  have hne : ¬ w2.heap.size = g := by omega
  have hne' : ¬ g = w2.heap.size := by omega
  have hwg : w.heap.size ≤ g := by have := HB1.size; omega
  have hw2 : w.heap.size ≤ w2.heap.size := HB2.size
  have T1 := Lib.hid TV
  have F1 := Lib.hid FV
  have hgv : g < (w2.alloc (.cells #[.slice (some ⟨g, 0, none⟩) n cap, .int .i64 x] 24)).heap.size := by simp [World.size_alloc]; omega
  obtain ⟨p0, p1, pf0, pf1, pl⟩ := TV
  clear hrow hb2 HV FV HB2 x0 x1 xf0 xf1 xl HB1 hbd hg
  clear hfz hcell F1 T1
  go_wp2_with fail
  refine (known3 _ (HM.out.below HBV.out)).mono ?_; rintro e w9 ⟨rfl, hb9⟩
  have VB9 := HBV.out.trans (hb9.mono HBV.out.size)
  clear hb9
  go_wp2
  go_ret
  exact ⟨rfl, VB9⟩
set_option maxRecDepth 100000 in
set_option maxHeartbeats 4000000 in
theorem bad_s3 (ad : Addr) (n c : Nat) (x a b : Int) (z : Nat → Int) (w : World) (hm : Mx w) (hz : FlatAt w (some ad) 2 n z) (ht : IsTab z n x) (hn1 : n = 1) (hw : bits .and .i64 b 3 = 3) :
    Calls Tryd.prog 8 #[.agg #[.slice (some ad) n c, .int .i64 x], .int .i64 a, .int .i64 b] w fun e w' => e = .returned (.bool true) ∧ Below w.heap.size w w' := by
  have HB0 : Below w.heap.size w (w.alloc (.cells #[.slice (some ad) n c, .int .i64 x] 24)) := by (repeat' (first | (with_reducible exact Below.refl _ _) | (with_reducible assumption) | (with_reducible refine Below.trans ?_ (Below.mono (by with_reducible assumption) ?_)) | (with_reducible refine Below.alloc ?_ ?_ _) | (with_reducible refine Below.setCell ?_ ?_ _) | (with_reducible refine below_drewN ?_ _) | (with_reducible refine Below.drew ?_) | go_size))
  have X0 : Tb (w.alloc (.cells #[.slice (some ad) n c, .int .i64 x] 24)) w.heap.size (.slice (some ad) n c) x := ⟨by simp [go_sem], by simp [go_sem], by simp [go_sem], by simp [go_sem], by simp⟩
  have n1 : 1 ≤ n := ht.1
  have n100 : n ≤ 100 := ht.2.1
  have hbd := hz.bd
  have HM := Lib.hid hm
  have HZ := Lib.hid hz
  have HT := Lib.hid ht
  have HI := Lib.hid (ref3_is (some ad) n c x z _ true (hz.below HB0) (by unfold maxLen; omega) (by simp [ht]))
  have t1 : decide ((300 : Int) < (n : Int)) = false := by simp only [decide_eq_false_iff_not]; omega
  have t0 : ¬ (n : Int) = 0 := by omega
  have bb := bits_and_le a 65535 (by omega)
  have bb' : 0 ≤ bits .and .i64 a 65535 ∧ bits .and .i64 a 65535 ≤ 65535 := bb
  have bb0 : 0 ≤ bits .and .i64 a 65535 := bb'.1
  have bb1 : bits .and .i64 a 65535 ≤ 65535 := bb'.2
  obtain ⟨kk, hkk⟩ := Int.eq_ofNat_of_zero_le (Int.emod_nonneg (bits .and .i64 a 65535) (show (n : Int) ≠ 0 by omega))
  have hkt : (bits .and .i64 a 65535).tmod (n : Int) = (kk : Int) := (Int.tmod_eq_emod_of_nonneg bb0).trans hkk
  have t2 : decide ((n : Int) < 2) = true := by simp only [decide_eq_true_eq]; omega
  clear bb bb' hkk hn1
  clear hm hz ht
  go_enter Tryd.func8, Tryd.ntmps8
  go_wp2_with fail
  refine HI.out.mono ?_; rintro e w1 ⟨rfl, hb1⟩
  have HB1 := HB0.trans (hb1.mono HB0.size)
  have X1 := X0.below hb1
  obtain ⟨x0, x1, xf0, xf1, xl⟩ := X1
  clear hb1 X0 HB0 HI
  go_wp2_with fail
  refine (own_yes ad n c x z w1 (HZ.out.below HB1) (by omega) (by omega)).mono ?_; rintro e w2 ⟨⟨g, cap, rfl, hg, hrow⟩, hb2⟩
  have HB2 := HB1.trans (hb2.mono HB1.size)
  have HV : Below w2.heap.size w2 (w2.alloc (.cells #[.slice (some ⟨g, 0, none⟩) n cap, .int .i64 x] 24)) := by (repeat' (first | (with_reducible exact Below.refl _ _) | (with_reducible assumption) | (with_reducible refine Below.trans ?_ (Below.mono (by with_reducible assumption) ?_)) | (with_reducible refine Below.alloc ?_ ?_ _) | (with_reducible refine Below.setCell ?_ ?_ _) | (with_reducible refine below_drewN ?_ _) | (with_reducible refine Below.drew ?_) | go_size))
  have HBV := Lib.hid (HB2.trans (HV.mono HB2.size))
  have hgl : g < w2.heap.size := (hrow.lt g rfl).2
  have FV : FlatAt (w2.alloc (.cells #[.slice (some ⟨g, 0, none⟩) n cap, .int .i64 x] 24)) (some ⟨g, 0, none⟩) 2 n z := by
    have h := own_flat2 hrow hbd
    obtain ⟨A', c', e, hf, _⟩ := h
    injection e with e1 e2 e3
    subst e1
    exact hf.below HV
  have hfz : ∀ o, (w2.alloc (.cells #[.slice (some ⟨g, 0, none⟩) n cap, .int .i64 x] 24)).frozen? ⟨g, o, none⟩ = false := fun o => (HV.frozen (p := ⟨g, o, none⟩) hgl).trans (by
    rcases hrow.2 with ⟨h, _⟩ | ⟨g', cap', cur, h, _, hh, _⟩
    · cases h
    · injection h with h1
      injection h1 with h1
      injection h1 with h1
      subst h1
      simp [World.frozen?, hh])
  have TV : Tb (w2.alloc (.cells #[.slice (some ⟨g, 0, none⟩) n cap, .int .i64 x] 24)) w2.heap.size (.slice (some ⟨g, 0, none⟩) n cap) x := ⟨by simp [go_sem], by simp [go_sem], by simp [go_sem], by simp [go_sem], by simp⟩
  have hcell : ∀ j, j < n * 2 → (w2.alloc (.cells #[.slice (some ⟨g, 0, none⟩) n cap, .int .i64 x] 24)).cell? ⟨g, j, none⟩ = some (.int .i64 (z j)) := fun j hj => by
    obtain ⟨B, O, e, _, hc⟩ := FV (by omega)
    injection e with e
    injection e with e1 e2
    subst e1
    subst e2
    have := (hc j hj).1
    rwa [Nat.zero_add] at this
  have hne : ¬ w2.heap.size = g := by omega
  have hne' : ¬ g = w2.heap.size := by omega
  have hwg : w.heap.size ≤ g := by have := HB1.size; omega
  have hw2 : w.heap.size ≤ w2.heap.size := HB2.size
  have T1 := Lib.hid TV
  have F1 := Lib.hid FV
  have hgv : g < (w2.alloc (.cells #[.slice (some ⟨g, 0, none⟩) n cap, .int .i64 x] 24)).heap.size := by simp [World.size_alloc]; omega
  obtain ⟨p0, p1, pf0, pf1, pl⟩ := TV
  clear hrow hb2 HV FV HB2 x0 x1 xf0 xf1 xl HB1 hbd hg
  clear hfz hcell F1 T1
  go_wp2_with fail
  refine (known3 _ (HM.out.below HBV.out)).mono ?_; rintro e w9 ⟨rfl, hb9⟩
  have VB9 := HBV.out.trans (hb9.mono HBV.out.size)
  clear hb9
  go_wp2
  go_ret
  exact ⟨rfl, VB9⟩
noncomputable def layW5 (os : Os) : World := layAt (layAt (layAt (layAt (layAt (World.holding Tryd.prog os ⟨#[], #[], []⟩) 3 Rows.laid_unicode_utf8_acceptRanges) 2 Rows.laid_unicode_utf8_first) 0 Rows.laid_internal_strconv_uint64pow10) 4 Rows.laid_math_bits_deBruijn32tab) 5 Rows.laid_math_bits_deBruijn64tab
set_option maxRecDepth 100000 in
theorem leapBad_contract (H : Type) (enc : TypeId × Value → H) (W : World) (base : Nat) (args : Array Value) (ds gs : List (DataW H)) (before : List MemPlace)
    (hval0 : ∀ (j : Nat) t v, Tryd.f8.params[j]? = some t → args[j]? = some v → Value.okWide Tryd.prog W .any base t v)
    (hW : DataW.Whole enc Tryd.prog Tryd.f8.params.toList Rows.leapBadSpec.vars false W args.toList ds gs before)
    (hsz0 : (DataW.weightsEach Tryd.prog (Tryd.f8.params.toList ++ (OpenSpec.ofChange Rows.leapBadSpec).bare.plain.varTypes Tryd.prog) (ds ++ gs)).all (· ≤ reachBytes) = true) (hL : laidMetH Tryd.prog Rows.leapBadRow.laid W) (hS : W.ShapedOpen Tryd.prog) :
    Calls Tryd.prog 8 args W fun e W' => ∃ v, e = .returned v ∧ Rows.leapBadSpec.post enc Tryd.prog Tryd.f8 false true false false W args v W' := by
  have hval : ∀ (j : Nat) t v, Tryd.f8.params[j]? = some t → args[j]? = some v → Value.okWide Tryd.prog W .any base t v := hval0
  have hsz := hsz0
  have hW' := hW
  obtain ⟨p, q, hA0, hV, rfl, hfz, hnd⟩ := hW
  have hA : DataW.TrodAll enc Tryd.prog W 0 (fun _ => true) true Tryd.f8.params.toList args.toList ds p := hA0
  rw [Tryd.params8] at hA hval hsz
  have hsame : (Rows.leapBadSpec.fn H (ds ++ gs)).results = [.lit (.bool true)] ∧ (Rows.leapBadSpec.fn H (ds ++ gs)).args = ds ∧ (Rows.leapBadSpec.fn H (ds ++ gs)).vars = [] → ∀ W', Below W.heap.size W W' → Rows.leapBadSpec.post enc Tryd.prog Tryd.f8 false true false false W args (.bool true) W' :=
    fun h W' hb => law_post (tb := 4) hW' law_laid (by kernel_rfl) rfl Tryd.underlying4 h.1 h.2.1 rfl h.2.2 hb
  obtain ⟨v0, vs0, d0, ds0, p0, q0, hargs, rfl, rfl, h0, r0⟩ := trodAll_cons hA
  obtain ⟨v1, vs1, d1, ds1, p1, q1, rfl, rfl, rfl, h1, r1⟩ := trodAll_cons r0
  obtain ⟨v2, vs2, d2, ds2, p2, q2, rfl, rfl, rfl, h2, r2⟩ := trodAll_cons r1
  obtain ⟨rfl, rfl, rfl⟩ := trodAll_nil r2
  obtain rfl : args = #[v0, v1, v2] := by cases args; simp_all
  obtain ⟨rfl, rfl⟩ := trodVars_none hV
  have hpost := hsame ⟨rfl, rfl, rfl⟩
  clear hsame hA0 hval0 hsz0
  obtain ⟨A, n, c, z, x, rfl, hn, hz, _⟩ := open_table (hval 0 24 v0 rfl rfl) h0
  obtain ⟨a1, rfl, rfl, rfl, wf1⟩ := open_int Tryd.underlying3 (hval 1 3 v1 rfl rfl) h1
  obtain ⟨a2, rfl, rfl, rfl, wf2⟩ := open_int Tryd.underlying3 (hval 2 3 v2 rfl rfl) h2
  have hm := mx_of_shaped hS
  by_cases h : 300 < n
  · exact (bad_out A n c x a1 a2 W hm h).mono fun e W' ⟨he, hb⟩ => ⟨_, he, hpost W' hb⟩
  · by_cases ht : IsTab z n x
    · obtain ⟨B, O, rfl, _, _⟩ := hz ht.1
      have n1 := ht.1
      have cc := bits_and_le a2 3 (by omega)
      have cc' : 0 ≤ bits .and .i64 a2 3 ∧ bits .and .i64 a2 3 ≤ 3 := cc
      have h1 := Int.emod_nonneg (bits .and .i64 a1 65535) (show (n : Int) ≠ 0 by omega)
      have h2 := Int.emod_lt_of_pos (bits .and .i64 a1 65535) (show 0 < (n : Int) by omega)
      obtain ⟨kk, hkk⟩ := Int.eq_ofNat_of_zero_le h1
      rcases (show bits .and .i64 a2 3 = 0 ∨ bits .and .i64 a2 3 = 1 ∨ bits .and .i64 a2 3 = 2 ∨ bits .and .i64 a2 3 = 3 by omega) with hw | hw | hw | hw
      · exact (bad_w0 _ n c kk x a1 a2 z W hm hz ht hkk (by omega) hw).mono fun e W' ⟨he, hb⟩ => ⟨_, he, hpost W' hb⟩
      · exact (bad_w1 _ n c kk x a1 a2 z W hm hz ht hkk (by omega) hw).mono fun e W' ⟨he, hb⟩ => ⟨_, he, hpost W' hb⟩
      all_goals
        by_cases hn1 : n = 1
        · first | exact (bad_s2 _ n c x a1 a2 z W hm hz ht hn1 hw).mono fun e W' ⟨he, hb⟩ => ⟨_, he, hpost W' hb⟩ | exact (bad_s3 _ n c x a1 a2 z W hm hz ht hn1 hw).mono fun e W' ⟨he, hb⟩ => ⟨_, he, hpost W' hb⟩
        · have h3 := Int.emod_nonneg (bits .and .i64 a1 65535) (show (n : Int) - 1 ≠ 0 by omega)
          have h4 := Int.emod_lt_of_pos (bits .and .i64 a1 65535) (show 0 < (n : Int) - 1 by omega)
          obtain ⟨mm, hmm⟩ := Int.eq_ofNat_of_zero_le h3
          first | exact (bad_w2 _ n c mm x a1 a2 z W hm hz ht hmm (by omega) hw).mono fun e W' ⟨he, hb⟩ => ⟨_, he, hpost W' hb⟩ | exact (bad_w3 _ n c mm x a1 a2 z W hm hz ht hmm (by omega) hw).mono fun e W' ⟨he, hb⟩ => ⟨_, he, hpost W' hb⟩
    · exact (bad_no A n c x a1 a2 z W hm hz (by omega) ht).mono fun e W' ⟨he, hb⟩ => ⟨_, he, hpost W' hb⟩
theorem leapBad_reads (os : Os) {H : Type} (enc : TypeId × Value → H) : (DataW.whole enc Tryd.prog ((layW5 os).forCall (fun _ _ => 0) ⟨#[], #[.agg #[.slice none 0 0, .int .i64 0], .int .i64 0, .int .i64 0], []⟩).memory Tryd.f8.params.toList Rows.leapBadSpec.vars false #[.agg #[.slice none 0 0, .int .i64 0], .int .i64 0, .int .i64 0].toList 8).isSome = true := by kernel_rfl
theorem leapBad_met (os : Os) : laidMet Tryd.prog Rows.leapBadRow.laid ((layW5 os).forCall (fun _ _ => 0) ⟨#[], #[.agg #[.slice none 0 0, .int .i64 0], .int .i64 0, .int .i64 0], []⟩).memory := laidMet_of_run' 8 (by kernel_rfl) (by kernel_rfl)
set_option maxRecDepth 100000 in
theorem leapBad_lifted (os : Os) (started : os.Started) (H : Type) (enc : TypeId × Value → H) (F : Stop.Interp) :
    ReturnsInHanded {} Tryd.checked os 8 .any ((OpenSpec.ofChange Rows.leapBadSpec).preRow enc Tryd.prog Tryd.f8 Rows.leapBadRow.domain false Rows.leapBadRow.laid) (((OpenSpec.ofChange Rows.leapBadSpec).at F).post enc Tryd.prog Tryd.f8 false true false false) := by
  obtain ⟨x, hx⟩ := Option.isSome_iff_exists.1 (leapBad_reads os enc)
  refine returnsInHanded_of_row (C := Tryd.checked) (s := OpenSpec.ofChange Rows.leapBadSpec) law_own started (by kernel_rfl) Tryd.func8
    (witness_row_at (enc := enc) (C := Tryd.checked) false (layW5 os) #[.agg #[.slice none 0 0, .int .i64 0], .int .i64 0, .int .i64 0] rfl (by kernel_rfl) (by kernel_rfl) (by kernel_rfl)
      (OpenSpec.preRow_of_cond 8 hx (by rfl) (fun k hk => by cases hk) (by kernel_rfl) (leapBad_met os))) ?_
  intro W base args ds gs before hval hW _ _ hsz hL hS _
  exact leapBad_contract H enc W base args ds gs before hval hW hsz hL hS
theorem leapBad_said : Rows.LeapBadSaid :=
  OpenClaim.holds_of_cond 8 Tryd.f8 rfl rfl rfl rfl rfl rfl rfl ⟨rfl, rfl, rfl, rfl, rfl⟩ rfl rfl rfl rfl rfl (by kernel_rfl) Tryd.func8 (by kernel_rfl)
    (of_decide_eq_true (by kernel_rfl)) (by unfold Func.isWrapper; first | (rw [if_pos (by decide +kernel)]; kernel_rfl) | (rw [if_neg (by decide +kernel)]; exact ⟨rfl, rfl⟩))
    (fun os started H enc _ F => by rw [OpenClaim.pre_eq_preRow]; exact leapBad_lifted os started H enc F)
theorem leapBad_holds : Rows.LeapBadCardSaid :=
  Claim7.holds_tied_plain_at .later [] _ _ _ _ leapBad_said (fun _ h => by cases h) (by kernel_rfl) (fun _ h => by cases h) leapBad_row_tie rfl ⟨rfl, rfl⟩ (by kernel_rfl) rfl (plain_of (f0 := 8) (fn0 := Tryd.f8) (by kernel_rfl) Tryd.func8 (by kernel_rfl) (by kernel_rfl)) (by kernel_rfl)
end Go.Proofs.YtonleiffbfdikaaDoor
