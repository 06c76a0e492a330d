/- vec.Vec of any number of places: New, Reach, Floor, Known, Stable, Mark. -/
import Derived.Test.YtpelglclkfabkaaVecB
set_option linter.unusedSimpArgs false
set_option linter.unusedVariables false
namespace Go.Proofs.Ytpelglclkfabkaa
open Go.RowKit

/-- Is it raised? -/
def rs (n : Nat) (i x y : Int) (p q : Nat → Int) : Bool := isStampB x y && (decide (0 ≤ i) && (decide (i < (n : Int)) && decide (cmp2 x y (p i.toNat) (q i.toNat) = 1)))
def stp (n : Nat) (i x y : Int) (p q : Nat → Int) : Nat → Int := if rs n i x y p q = true then upd p i.toNat x else p
def stq (n : Nat) (i x y : Int) (p q : Nat → Int) : Nat → Int := if rs n i x y p q = true then upd q i.toNat y else q
theorem cmp2_three (m c p q : Int) : cmp2 m c p q = 1 ∨ cmp2 m c p q = 0 ∨ cmp2 m c p q = -1 := by
  unfold cmp2 or2 cmp1
  repeat' split
  all_goals simp
set_option maxHeartbeats 4000000 in
theorem vec_raise_no (a n c : Nat) (i : Int) (p q : Nat → Int) (x y : Int) (w : World) (h : ArrAt w a n p q) (hn : n ≤ 1000) (hr : rs n i x y p q = false) :
    Calls Try.prog 24 #[.slice (some ⟨a, 0, none⟩) n c, .int .i64 i, .agg #[.int .i64 x, .int .i64 y]] w fun e w' => e = .returned (.bool false) ∧ Below w.heap.size w w' := by
  have HB0 : Below w.heap.size w (w.alloc (.cells #[.int .i64 x, .int .i64 y] 32)) := by (repeat' (first | (with_reducible exact Below.refl _ _) | (with_reducible assumption) | (with_reducible refine Below.trans ?_ (Below.mono (by with_reducible assumption) ?_)) | (with_reducible refine Below.alloc ?_ ?_ _) | (with_reducible refine Below.setCell ?_ ?_ _) | (with_reducible refine below_drewN ?_ _) | (with_reducible refine Below.drew ?_) | go_size))
  cases hs : isStampB x y
  · go_enter Try.func24, Try.ntmps24
    go_wp2_with fail
    refine (hlc_pack_no x y _ hs).mono ?_; rintro e w1 ⟨rfl, hb1⟩
    have HB1 : Below w.heap.size w w1 := HB0.trans (hb1.mono HB0.size)
    have z1 := HB1.size
    clear hb1 HB0
    go_wp2
    go_quiet (fail)
    go_wp2
    go_ret
    go_light
    exact ⟨rfl, by (repeat' (first | (with_reducible exact Below.refl _ _) | (with_reducible assumption) | (with_reducible refine Below.trans ?_ (Below.mono (by with_reducible assumption) ?_)) | (with_reducible refine Below.alloc ?_ ?_ _) | (with_reducible refine Below.setCell ?_ ?_ _) | (with_reducible refine below_drewN ?_ _) | (with_reducible refine Below.drew ?_) | go_size))⟩
  · have HS := Lib.hid hs
    have la := h.lt
    unfold rs at hr
    rw [hs, Bool.true_and] at hr
    clear hs
    by_cases h0 : i < 0
    · have d1 : decide (i < 0) = true := by simp; omega
      go_enter Try.func24, Try.ntmps24
      go_wp2_with fail
      refine (hlc_pack_yes x y _ HS.out).mono ?_; rintro e w1 ⟨rfl, hb1⟩
      have HB1 : Below w.heap.size w w1 := HB0.trans (hb1.mono HB0.size)
      have z1 := HB1.size
      clear hb1 HB0 hr
      go_wp2
      go_quiet (fail)
      go_wp2
      go_ret
      go_light
      exact ⟨rfl, by (repeat' (first | (with_reducible exact Below.refl _ _) | (with_reducible assumption) | (with_reducible refine Below.trans ?_ (Below.mono (by with_reducible assumption) ?_)) | (with_reducible refine Below.alloc ?_ ?_ _) | (with_reducible refine Below.setCell ?_ ?_ _) | (with_reducible refine below_drewN ?_ _) | (with_reducible refine Below.drew ?_) | go_size))⟩
    · have d1 : decide (i < 0) = false := by simp; omega
      by_cases h1 : (n : Int) ≤ i
      · have d2 : decide ((n : Int) ≤ i) = true := by simp; omega
        have d3 : decide (i ≥ (n : Int)) = true := by simp; omega
        have d4 : (!decide (i < (n : Int))) = true := by simp; omega
        have d5 : decide (i < (n : Int)) = false := by simp; omega
        go_enter Try.func24, Try.ntmps24
        go_wp2_with fail
        refine (hlc_pack_yes x y _ HS.out).mono ?_; rintro e w1 ⟨rfl, hb1⟩
        have HB1 : Below w.heap.size w w1 := HB0.trans (hb1.mono HB0.size)
        have z1 := HB1.size
        clear hb1 HB0 hr
        go_wp2
        go_quiet (fail)
        go_wp2
        go_ret
        go_light
        exact ⟨rfl, by (repeat' (first | (with_reducible exact Below.refl _ _) | (with_reducible assumption) | (with_reducible refine Below.trans ?_ (Below.mono (by with_reducible assumption) ?_)) | (with_reducible refine Below.alloc ?_ ?_ _) | (with_reducible refine Below.setCell ?_ ?_ _) | (with_reducible refine below_drewN ?_ _) | (with_reducible refine Below.drew ?_) | go_size))⟩
      · obtain ⟨k, rfl⟩ := Int.eq_ofNat_of_zero_le (show 0 ≤ i from by omega)
        have hi : k < n := by omega
        have i0 : (0 : Int) ≤ (k : Int) := by omega
        have i1 : (k : Int) < (n : Int) := by omega
        have d2 : decide ((n : Int) ≤ (k : Int)) = false := by simp; omega
        have d3 : decide (n ≤ k) = false := by simp; omega
        have HG : Hid (decide (cmp2 x y (p k) (q k) ≤ 0) = true) := Lib.hid (by
          have h3 := cmp2_three x y (p k) (q k)
          simp at hr
          have := hr (by omega)
          simp; omega)
        have HH := Lib.hid h
        clear h hr h0 h1
        go_enter Try.func24, Try.ntmps24
        go_wp2_with fail
        refine (hlc_pack_yes x y _ HS.out).mono ?_; rintro e w1 ⟨rfl, hb1⟩
        have HB1 : Below w.heap.size w w1 := HB0.trans (hb1.mono HB0.size)
        have S0 : w1.cell? ⟨w.heap.size, 0, none⟩ = some (.int .i64 x) := (hb1.cell (p := ⟨w.heap.size, 0, none⟩) (by simp)).trans (by simp)
        have S1 : w1.cell? ⟨w.heap.size, 1, none⟩ = some (.int .i64 y) := (hb1.cell (p := ⟨w.heap.size, 1, none⟩) (by simp)).trans (by simp)
        have l1 : w.heap.size < w1.heap.size := by have := hb1.size; simp at this; omega
        have A1 := HH.out.below HB1 la
        have Y0 := A1.c0 k hi
        have Y1 := A1.c1 k hi
        have la1 := A1.lt
        clear hb1
        go_wp2
        generalize hp : p k = pi at *
        generalize hq : q k = qi at *
        clear hp hq
        generalize hcm : cmp2 x y pi qi = cm at *
        have HCM := Lib.hid hcm
        have hg := HG.out
        clear hcm HG
        go_region_held3 (fun w' => w'.cell? ⟨w.heap.size, 0, none⟩ = some (.int .i64 x) ∧ w'.cell? ⟨w.heap.size, 1, none⟩ = some (.int .i64 y) ∧ w'.cell? ⟨a, k * 2, none⟩ = some (.int .i64 pi) ∧ w'.cell? ⟨a, k * 2 + 1, none⟩ = some (.int .i64 qi)) (first | exact ⟨S0, S1, Y0, Y1⟩ | exact ⟨s0, s1, s2, s3⟩)
          (first | (go_at_call 28; refine (hlc_compare _ _ _ _ _).mono ?_; rw [HCM.out]; rintro e w5 ⟨rfl, hb5⟩; have s0 := (hb5.cell (p := ⟨w.heap.size, 0, none⟩) l1).trans S0; have s1 := (hb5.cell (p := ⟨w.heap.size, 1, none⟩) l1).trans S1; have s2 := (hb5.cell (p := ⟨a, k * 2, none⟩) la1).trans Y0; have s3 := (hb5.cell (p := ⟨a, k * 2 + 1, none⟩) la1).trans Y1; have HB5 : Below w.heap.size w w5 := HB1.trans (Below.trans (by (repeat' (first | (with_reducible exact Below.refl _ _) | (with_reducible assumption) | (with_reducible refine Below.trans ?_ (Below.mono (by with_reducible assumption) ?_)) | (with_reducible refine Below.alloc ?_ ?_ _) | (with_reducible refine Below.setCell ?_ ?_ _) | (with_reducible refine below_drewN ?_ _) | (with_reducible refine Below.drew ?_) | go_size))) (hb5.mono (Nat.le_of_lt l1)))))
        have z5 := HB5.size
        clear hb5 S0 S1 Y0 Y1
        go_wp2
        go_ret
        go_light
        exact ⟨rfl, by (repeat' (first | (with_reducible exact Below.refl _ _) | (with_reducible assumption) | (with_reducible refine Below.trans ?_ (Below.mono (by with_reducible assumption) ?_)) | (with_reducible refine Below.alloc ?_ ?_ _) | (with_reducible refine Below.setCell ?_ ?_ _) | (with_reducible refine below_drewN ?_ _) | (with_reducible refine Below.drew ?_) | go_size))⟩
theorem vec_raise (a n c : Nat) (i : Int) (p q : Nat → Int) (x y : Int) (w : World) (h : ArrAt w a n p q) (hn : n ≤ 1000) :
    Calls Try.prog 24 #[.slice (some ⟨a, 0, none⟩) n c, .int .i64 i, .agg #[.int .i64 x, .int .i64 y]] w fun e w' => e = .returned (.bool (rs n i x y p q)) ∧ Only a w w' ∧ ArrAt w' a n (stp n i x y p q) (stq n i x y p q) := by
  unfold stp stq
  cases hr : rs n i x y p q
  · refine (vec_raise_no a n c i p q x y w h hn hr).mono ?_
    rintro e w' ⟨rfl, hb⟩
    exact ⟨rfl, Only.of_below hb, by simpa using h.below hb h.lt⟩
  · have hr' := hr
    unfold rs at hr'
    simp at hr'
    obtain ⟨hs, h0, h1, h2⟩ := hr'
    obtain ⟨k, rfl⟩ := Int.eq_ofNat_of_zero_le h0
    simpa using vec_raise_yes a n k c p q x y w h hn (by omega) hs (by simpa using h2)
set_option maxHeartbeats 2000000 in
theorem vec_reach (b ka fl n : Nat) (i : Int) (p q p' q' : Nat → Int) (x y : Int) (w : World) (h : VecAt w b ka fl n p q p' q') (hn : n ≤ 1000) :
    Calls Try.prog 11 #[.pointer (some ⟨b, 0, none⟩), .int .i64 i, .agg #[.int .i64 x, .int .i64 y]] w fun e w' => e = .returned (.bool (rs n i x y p q)) ∧ Only ka w w' ∧ VecAt w' b ka fl n (stp n i x y p q) (stq n i x y p q) p' q' := by
  have HB0 : Below w.heap.size w (w.alloc (.cells #[.int .i64 x, .int .i64 y] 32)) := by (repeat' (first | (with_reducible exact Below.refl _ _) | (with_reducible assumption) | (with_reducible refine Below.trans ?_ (Below.mono (by with_reducible assumption) ?_)) | (with_reducible refine Below.alloc ?_ ?_ _) | (with_reducible refine Below.setCell ?_ ?_ _) | (with_reducible refine below_drewN ?_ _) | (with_reducible refine Below.drew ?_) | go_size))
  have c0 := h.c0
  have lb := h.lt
  have lb1 : b < w.heap.size + 1 := by omega
  have HV := Lib.hid h
  have HR := Lib.hid fun (W : World) (K : ArrAt W ka n p q) => vec_raise ka n n i p q x y W K hn
  have KA := (h.belowW HB0).K
  clear h
  generalize rs n i x y p q = r at *
  generalize stp n i x y p q = P at *
  generalize stq n i x y p q = Q at *
  go_enter Try.func11, Try.ntmps11
  go_wp2
  go_region_with (go_at_call 24; refine (HR.out _ (by first | exact KA | exact KA.drew | exact KA.drew.drew)).mono ?_; rintro e w5 ⟨rfl, ho5, k5⟩)
  all_goals
    go_wp2
    go_ret
    go_light
    have HO : Only ka w w5 := Only.trans (by (repeat' (first | (with_reducible exact Only.refl _ _) | (with_reducible assumption) | (with_reducible refine Only.alloc ?_ _) | (with_reducible refine Only.setB ?_ _) | (refine Only.setCell ?_ (Or.inr ?_) _) | (with_reducible refine Only.drewN ?_ _) | (with_reducible refine Only.drew ?_) | (with_reducible refine Only.trans ?_ (by with_reducible assumption)) | (with_reducible refine Only.trans ?_ (Only.of_below (by with_reducible assumption))) | go_size))) ho5
    refine ⟨rfl, HO, ?_⟩
    have V := HV.out
    exact ⟨(HO.cell b 0 V.lt V.n1).trans V.c0, (HO.cell b 1 V.lt V.n1).trans V.c1, k5, V.F.only HO (fun e => V.n3 e.symm), V.n1, V.n2, V.n3, Nat.lt_of_lt_of_le V.lt HO.size⟩
set_option maxHeartbeats 2000000 in
theorem vec_floor (b ka fl n : Nat) (i : Int) (p q p' q' : Nat → Int) (x y : Int) (w : World) (h : VecAt w b ka fl n p q p' q') (hn : n ≤ 1000) :
    Calls Try.prog 13 #[.pointer (some ⟨b, 0, none⟩), .int .i64 i, .agg #[.int .i64 x, .int .i64 y]] w fun e w' => e = .returned (.bool (rs n i x y p' q')) ∧ Only fl w w' ∧ VecAt w' b ka fl n p q (stp n i x y p' q') (stq n i x y p' q') := by
  have HB0 : Below w.heap.size w (w.alloc (.cells #[.int .i64 x, .int .i64 y] 32)) := by (repeat' (first | (with_reducible exact Below.refl _ _) | (with_reducible assumption) | (with_reducible refine Below.trans ?_ (Below.mono (by with_reducible assumption) ?_)) | (with_reducible refine Below.alloc ?_ ?_ _) | (with_reducible refine Below.setCell ?_ ?_ _) | (with_reducible refine below_drewN ?_ _) | (with_reducible refine Below.drew ?_) | go_size))
  have c1 := h.c1
  have lb := h.lt
  have lb1 : b < w.heap.size + 1 := by omega
  have HV := Lib.hid h
  have HR := Lib.hid fun (W : World) (K : ArrAt W fl n p' q') => vec_raise fl n n i p' q' x y W K hn
  have KA := (h.belowW HB0).F
  clear h
  generalize rs n i x y p' q' = r at *
  generalize stp n i x y p' q' = P at *
  generalize stq n i x y p' q' = Q at *
  go_enter Try.func13, Try.ntmps13
  go_wp2
  go_region_with (go_at_call 24; refine (HR.out _ (by first | exact KA | exact KA.drew | exact KA.drew.drew)).mono ?_; rintro e w5 ⟨rfl, ho5, k5⟩)
  all_goals
    go_wp2
    go_ret
    go_light
    have HO : Only fl w w5 := Only.trans (by (repeat' (first | (with_reducible exact Only.refl _ _) | (with_reducible assumption) | (with_reducible refine Only.alloc ?_ _) | (with_reducible refine Only.setB ?_ _) | (refine Only.setCell ?_ (Or.inr ?_) _) | (with_reducible refine Only.drewN ?_ _) | (with_reducible refine Only.drew ?_) | (with_reducible refine Only.trans ?_ (by with_reducible assumption)) | (with_reducible refine Only.trans ?_ (Only.of_below (by with_reducible assumption))) | go_size))) ho5
    refine ⟨rfl, HO, ?_⟩
    have V := HV.out
    exact ⟨(HO.cell b 0 V.lt V.n2).trans V.c0, (HO.cell b 1 V.lt V.n2).trans V.c1, V.K.only HO V.n3, k5, V.n1, V.n2, V.n3, Nat.lt_of_lt_of_le V.lt HO.size⟩
set_option maxHeartbeats 1000000 in
theorem vec_mark (b ka fl n : Nat) (p q p' q' : Nat → Int) (w : World) (h : VecAt w b ka fl n p q p' q') (hn : n ≤ 1000) :
    Calls Try.prog 19 #[.pointer (some ⟨b, 0, none⟩)] w fun e w' => e = .returned (.agg #[.int .i64 (mnS p' q' n).1, .int .i64 (mnS p' q' n).2]) ∧ Below w.heap.size w w' := by
  have HB0 : Below w.heap.size w (w.alloc (.cells #[.int .i64 0, .int .i64 0] 32)) := by (repeat' (first | (with_reducible exact Below.refl _ _) | (with_reducible assumption) | (with_reducible refine Below.trans ?_ (Below.mono (by with_reducible assumption) ?_)) | (with_reducible refine Below.alloc ?_ ?_ _) | (with_reducible refine Below.setCell ?_ ?_ _) | (with_reducible refine below_drewN ?_ _) | (with_reducible refine Below.drew ?_) | go_size))
  have J0 := Lib.hid (Ints2.new w 0 0 32)
  have c1 := h.c1
  have lb := h.lt
  have HL := Lib.hid fun (W : World) (K : ArrAt W fl n p' q') => vec_least p' q' (some ⟨fl, 0, none⟩) n n W (by omega) K.pairs
  have KA := (h.belowW HB0).F
  clear h
  generalize hm : mnS p' q' n = m at *
  obtain ⟨m1, m2⟩ := m
  clear hm
  go_enter Try.func19, Try.ntmps19
  go_wp2_with fail
  refine (HL.out _ KA).mono ?_; rintro e w5 ⟨rfl, hb5⟩
  have K0 := J0.out.below hb5 (by simp)
  have HB5 : Below w.heap.size w w5 := HB0.trans (hb5.mono HB0.size)
  have R0 := (K0.set0 m1).c0
  have R1 := ((K0.set0 m1).set1 m2).c1
  obtain ⟨y0, y1, f0, f1, lt'⟩ := K0
  clear hb5 KA
  go_wp2
  refine bodyPost_ret (v := .agg #[.int .i64 m1, .int .i64 m2]) (by simp [results, Try.results19, go_sem, R0, R1]) rfl ⟨rfl, ?_⟩
  go_light
  (repeat' (first | (with_reducible exact Below.refl _ _) | (with_reducible assumption) | (with_reducible refine Below.trans ?_ (Below.mono (by with_reducible assumption) ?_)) | (with_reducible refine Below.alloc ?_ ?_ _) | (with_reducible refine Below.setCell ?_ ?_ _) | (with_reducible refine below_drewN ?_ _) | (with_reducible refine Below.drew ?_) | go_size))
/-- What is known of a place: nothing, if there is none. -/
def kno (n : Nat) (i : Int) (p : Nat → Int) : Int := if 0 ≤ i ∧ i < (n : Int) then p i.toNat else 0
set_option maxHeartbeats 1000000 in
theorem vec_known (b ka fl n : Nat) (i : Int) (p q p' q' : Nat → Int) (w : World) (h : VecAt w b ka fl n p q p' q') (hn : n ≤ 1000) :
    Calls Try.prog 15 #[.pointer (some ⟨b, 0, none⟩), .int .i64 i] w fun e w' => e = .returned (.agg #[.int .i64 (kno n i p), .int .i64 (kno n i q)]) ∧ Below w.heap.size w w' := by
  have c0 := h.c0
  have lb := h.lt
  have lb1 : b < w.heap.size + 1 := by omega
  unfold kno
  by_cases h0 : 0 ≤ i
  · by_cases h1 : i < (n : Int)
    · obtain ⟨k, rfl⟩ := Int.eq_ofNat_of_zero_le h0
      have hk : k < n := by omega
      have y0 := h.K.c0 k hk
      have y1 := h.K.c1 k hk
      have la := h.K.lt
      have la1 : ka < w.heap.size + 1 := by omega
      have d1 : decide ((k : Int) < 0) = false := by simp
      have d2 : decide ((n : Int) ≤ (k : Int)) = false := by simp; omega
      have d3 : decide (n ≤ k) = false := by simp; omega
      rw [if_pos ⟨h0, h1⟩, if_pos ⟨h0, h1⟩]
      simp only [Int.toNat_natCast]
      clear h
      generalize p k = pk at *
      generalize q k = qk at *
      go_enter Try.func15, Try.ntmps15
      go_wp2
      refine bodyPost_ret (v := .agg #[.int .i64 pk, .int .i64 qk]) (by simp [results, Try.results15, go_sem]) rfl ⟨rfl, ?_⟩
      go_light
      (repeat' (first | (with_reducible exact Below.refl _ _) | (with_reducible assumption) | (with_reducible refine Below.trans ?_ (Below.mono (by with_reducible assumption) ?_)) | (with_reducible refine Below.alloc ?_ ?_ _) | (with_reducible refine Below.setCell ?_ ?_ _) | (with_reducible refine below_drewN ?_ _) | (with_reducible refine Below.drew ?_) | go_size))
    · have e : ∀ a : Int, (if 0 ≤ i ∧ i < (n : Int) then a else 0) = 0 := fun a => if_neg (fun h => h1 h.2)
      rw [e, e]
      have h1' : (n : Int) ≤ i := by omega
      clear h e h1
      go_enter Try.func15, Try.ntmps15
      go_wp2
      refine bodyPost_ret (v := .agg #[.int .i64 0, .int .i64 0]) (by simp [results, Try.results15, go_sem]) rfl ⟨rfl, ?_⟩
      go_light
      (repeat' (first | (with_reducible exact Below.refl _ _) | (with_reducible assumption) | (with_reducible refine Below.trans ?_ (Below.mono (by with_reducible assumption) ?_)) | (with_reducible refine Below.alloc ?_ ?_ _) | (with_reducible refine Below.setCell ?_ ?_ _) | (with_reducible refine below_drewN ?_ _) | (with_reducible refine Below.drew ?_) | go_size))
  · have e : ∀ a : Int, (if 0 ≤ i ∧ i < (n : Int) then a else 0) = 0 := fun a => if_neg (fun h => h0 h.1)
    rw [e, e]
    have h0' : i < 0 := by omega
    clear h e h0
    go_enter Try.func15, Try.ntmps15
    go_wp2
    refine bodyPost_ret (v := .agg #[.int .i64 0, .int .i64 0]) (by simp [results, Try.results15, go_sem]) rfl ⟨rfl, ?_⟩
    go_light
    (repeat' (first | (with_reducible exact Below.refl _ _) | (with_reducible assumption) | (with_reducible refine Below.trans ?_ (Below.mono (by with_reducible assumption) ?_)) | (with_reducible refine Below.alloc ?_ ?_ _) | (with_reducible refine Below.setCell ?_ ?_ _) | (with_reducible refine below_drewN ?_ _) | (with_reducible refine Below.drew ?_) | go_size))
def zs (n : Nat) : Array Value := (List.replicate (n * 2) (Value.int .i64 0)).toArray
theorem zs_at (n j : Nat) (h : j < n * 2) : (zs n)[j]? = some (.int .i64 0) := by
  unfold zs
  simp [h]
theorem zero_arrN (w : World) (n : Nat) : ArrAt (w.alloc (.cells (zs n) 32)) w.heap.size n (fun _ => 0) (fun _ => 0) :=
  ⟨fun j hj => (new_cell w rfl _ _ _).trans (zs_at n _ (by omega)), fun j hj => (new_cell w rfl _ _ _).trans (zs_at n _ (by omega)), fun o => by simp, by simp⟩
theorem new_vec_atN (w : World) (n k f : Nat) (h : (k = w.heap.size ∧ f = w.heap.size + 1) ∨ (f = w.heap.size ∧ k = w.heap.size + 1)) :
    VecAt (((w.alloc (.cells (zs n) 32)).alloc (.cells (zs n) 32)).alloc (.cells #[.slice (some ⟨k, 0, none⟩) n n, .slice (some ⟨f, 0, none⟩) n n] 45)) (w.heap.size + 1 + 1) k f n (fun _ => 0) (fun _ => 0) (fun _ => 0) (fun _ => 0) := by
  have a0 := ((zero_arrN w n).alloc (.cells (zs n) 32)).alloc (.cells #[.slice (some ⟨k, 0, none⟩) n n, .slice (some ⟨f, 0, none⟩) n n] 45)
  have a1 := (zero_arrN (w.alloc (.cells (zs n) 32)) n).alloc (.cells #[.slice (some ⟨k, 0, none⟩) n n, .slice (some ⟨f, 0, none⟩) n n] 45)
  rw [World.size_alloc] at a1
  rcases h with ⟨rfl, rfl⟩ | ⟨rfl, rfl⟩
  · exact ⟨new_cell _ (by simp) _ _ 0, new_cell _ (by simp) _ _ 1, a0, a1, by omega, by omega, by omega, by simp⟩
  · exact ⟨new_cell _ (by simp) _ _ 0, new_cell _ (by simp) _ _ 1, a1, a0, by omega, by omega, by omega, by simp⟩
theorem make_stamps (n : Nat) (h0 : 1 ≤ n) (h1 : n ≤ 5) (w : World) : (Instr.makeSlice 40 (.int .i64 n) (.int .i64 n)).run Try.prog w = .ok (.slice (some ⟨w.heap.size, 0, none⟩) n n) (w.alloc (.cells (zs n) 32)) := by
  rcases (show n = 1 ∨ n = 2 ∨ n = 3 ∨ n = 4 ∨ n = 5 from by omega) with rfl | rfl | rfl | rfl | rfl <;> kernel_rfl
set_option maxHeartbeats 2000000 in
theorem vec_new (n : Nat) (w : World) (h0 : 1 ≤ n) (h1 : n ≤ 5) : Calls Try.prog 8 #[.int .i64 n] w (NewPost n w) := by
  have hmk := make_stamps n h0 h1
  have h0' : (1 : Int) ≤ (n : Int) := by omega
  have h1' : (n : Int) ≤ 5 := by omega
  generalize hzz : zs n = zz at *
  have HZZ := Lib.hid hzz
  clear hzz h0 h1
  go_enter Try.func8, Try.ntmps8
  go_wp2
  go_region
  all_goals
    go_wp2
    go_ret2
    rw [← HZZ.out]
    first
      | exact ⟨w.heap.size + 1 + 1, w.heap.size, w.heap.size + 1, rfl, by (repeat' (first | (with_reducible exact Below.refl _ _) | (with_reducible assumption) | (with_reducible refine Below.trans ?_ (Below.mono (by with_reducible assumption) ?_)) | (with_reducible refine Below.alloc ?_ ?_ _) | (with_reducible refine Below.setCell ?_ ?_ _) | (with_reducible refine below_drewN ?_ _) | (with_reducible refine Below.drew ?_) | go_size)), by omega, by omega, by omega, (new_vec_atN w n w.heap.size (w.heap.size + 1) (.inl ⟨rfl, rfl⟩)).drew⟩
      | exact ⟨w.heap.size + 1 + 1, w.heap.size + 1, w.heap.size, rfl, by (repeat' (first | (with_reducible exact Below.refl _ _) | (with_reducible assumption) | (with_reducible refine Below.trans ?_ (Below.mono (by with_reducible assumption) ?_)) | (with_reducible refine Below.alloc ?_ ?_ _) | (with_reducible refine Below.setCell ?_ ?_ _) | (with_reducible refine below_drewN ?_ _) | (with_reducible refine Below.drew ?_) | go_size)), by omega, by omega, by omega, (new_vec_atN w n (w.heap.size + 1) w.heap.size (.inr ⟨rfl, rfl⟩)).drew⟩
end Go.Proofs.Ytpelglclkfabkaa
