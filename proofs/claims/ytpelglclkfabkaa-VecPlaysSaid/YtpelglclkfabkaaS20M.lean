/- Stage 20: VecStable. -/
import Derived.Test.YtpelglclkfabkaaVecC
import Derived.Test.YtpelglclkfabkaaS20A
import Derived.Test.YtpelglclkfabkaaStampArg
set_option linter.unusedSimpArgs false
set_option linter.unusedVariables false
namespace Go.Proofs.Ytpelglclkfabkaa
open Go.ChangeShapes Go.WideShapes Go.ChangeAt Go.RowKit Go.Joins

/-- Is it a stamp above the first one? -/
def okB (x y : Int) : Bool := isStampB x y && decide (cmp2 x y 0 0 = 1)
/-- What is known of each place behind the first k. -/
def gK (x y u : Nat → Int) (k : Nat) : Nat → Int := fun j => if j < k ∧ okB (x j) (y j) = true then u j else 0
theorem gK_zero (x y u : Nat → Int) : gK x y u 0 = fun _ => 0 := by
  funext j
  unfold gK
  rw [if_neg (by omega)]
theorem gK_at (x y u : Nat → Int) (k : Nat) : gK x y u k k = 0 := by
  unfold gK
  rw [if_neg (by omega)]
theorem rs_gK (x y : Nat → Int) (n k : Nat) (hk : k < n) : rs n k (x k) (y k) (gK x y x k) (gK x y y k) = okB (x k) (y k) := by
  unfold rs okB
  have h1 : decide ((0 : Int) ≤ (k : Int)) = true := by simp
  have h2 : decide ((k : Int) < (n : Int)) = true := by simp; omega
  rw [h1, h2, Int.toNat_natCast, gK_at, gK_at]
  simp
theorem gK_upd (x y u : Nat → Int) (k : Nat) (h : okB (x k) (y k) = true) : upd (gK x y u k) k (u k) = gK x y u (k + 1) := by
  funext j
  unfold upd gK
  by_cases e : j = k
  · subst e; simp [h]
  · have h2 : j < k + 1 ↔ j < k := by omega
    simp [e, h2]
theorem gK_same (x y u : Nat → Int) (k : Nat) (h : okB (x k) (y k) = false) : gK x y u k = gK x y u (k + 1) := by
  funext j
  unfold gK
  by_cases e : j = k
  · subst e; simp [h]
  · have h2 : j < k + 1 ↔ j < k := by omega
    simp [h2]
theorem stp_gK (x y : Nat → Int) (n k : Nat) (hk : k < n) : stp n k (x k) (y k) (gK x y x k) (gK x y y k) = gK x y x (k + 1) := by
  unfold stp
  rw [rs_gK x y n k hk]
  cases h : okB (x k) (y k)
  · simpa using gK_same x y x k h
  · simpa using gK_upd x y x k h
theorem stq_gK (x y : Nat → Int) (n k : Nat) (hk : k < n) : stq n k (x k) (y k) (gK x y x k) (gK x y y k) = gK x y y (k + 1) := by
  unfold stq
  rw [rs_gK x y n k hk]
  cases h : okB (x k) (y k)
  · simpa using gK_same x y y k h
  · simpa using gK_upd x y y k h
theorem kno_in (n k : Nat) (hk : k < n) (p : Nat → Int) : kno n k p = p k := by
  unfold kno
  rw [if_pos (by omega), Int.toNat_natCast]
theorem cmp2_flip (m c p q : Int) : cmp2 p q m c = - cmp2 m c p q := by
  unfold cmp2 or2 cmp1
  rcases (show m < p ∨ m = p ∨ p < m from by omega) with h | h | h
  · have h2 : ¬ p < m := by omega
    simp [h, h2]
  · subst h
    rcases (show c < q ∨ c = q ∨ q < c from by omega) with h | h | h
    · have h2 : ¬ q < c := by omega
      simp [h, h2]
    · subst h; simp
    · have h2 : ¬ c < q := by omega
      simp [h, h2]
  · have h2 : ¬ m < p := by omega
    simp [h, h2]
/-- What is known of a place at which stamp a, c was told. -/
theorem want_cases (x y : Nat → Int) (n k : Nat) (hk : k < n) :
    (isStampB (x k) (y k) = false ∧ gK x y x n k = 0 ∧ gK x y y n k = 0) ∨
    (isStampB (x k) (y k) = true ∧ decide (cmp2 (x k) (y k) 0 0 ≤ 0) = true ∧ gK x y x n k = 0 ∧ gK x y y n k = 0) ∨
    (isStampB (x k) (y k) = true ∧ decide (cmp2 (x k) (y k) 0 0 ≤ 0) = false ∧ gK x y x n k = x k ∧ gK x y y n k = y k) := by
  have c3 := cmp2_three (x k) (y k) 0 0
  unfold gK okB
  cases hs : isStampB (x k) (y k)
  · exact .inl ⟨rfl, by simp, by simp⟩
  · refine .inr ?_
    by_cases h : cmp2 (x k) (y k) 0 0 = 1
    · exact .inr ⟨rfl, by simp; omega, by simp [h, hk], by simp [h, hk]⟩
    · exact .inl ⟨rfl, by simp; omega, by simp [h], by simp [h]⟩
set_option maxHeartbeats 1000000 in
theorem vecStable_out (A : Option Addr) (n c : Nat) (w : World) (h : n = 0 ∨ 5 < n) (hn : n ≤ maxLen) :
    Calls Try.prog 4 #[.slice A n c] w fun e w' => e = .returned (.bool true) ∧ Below w.heap.size w w' := by
  unfold maxLen at hn
  rcases h with h | h
  · subst h
    go_enter Try.func4, Try.ntmps4
    go_wp2_with (go_at_call 10; refine (known20 _).mono ?_; rintro e w5 ⟨rfl, hb5⟩; obtain ⟨hc5, hf5⟩ := bcell hb5; have hz5 := hb5.size; (try simp only [World.size_alloc, World.size_setCell, World.heap_drewN] at hb5 hc5 hf5 hz5); (try have ha05 : w.heap.size < w5.heap.size := by omega); (try have ha15 : w.heap.size + 1 < w5.heap.size := by omega); (try have ha25 : w.heap.size + 2 < w5.heap.size := by omega); (try have hal5 : w.heap.size ≤ w5.heap.size := by omega); (try have ham5 : w.heap.size < w5.heap.size + 2 := by omega))
    go_ret
    go_light
    exact ⟨rfl, by (repeat' (first | (with_reducible exact Below.refl _ _) | (with_reducible assumption) | (with_reducible refine Below.trans ?_ (Below.mono (by with_reducible assumption) ?_)) | (with_reducible refine Below.alloc ?_ ?_ _) | (with_reducible refine Below.setCell ?_ ?_ _) | (with_reducible refine below_drewN ?_ _) | (with_reducible refine Below.drew ?_) | go_size))⟩
  · have h1 : (1 : Int) ≤ (n : Int) := by omega
    have h2 : (5 : Int) < (n : Int) := by omega
    go_enter Try.func4, Try.ntmps4
    go_wp2_with (go_at_call 10; refine (known20 _).mono ?_; rintro e w5 ⟨rfl, hb5⟩; obtain ⟨hc5, hf5⟩ := bcell hb5; have hz5 := hb5.size; (try simp only [World.size_alloc, World.size_setCell, World.heap_drewN] at hb5 hc5 hf5 hz5); (try have ha05 : w.heap.size < w5.heap.size := by omega); (try have ha15 : w.heap.size + 1 < w5.heap.size := by omega); (try have ha25 : w.heap.size + 2 < w5.heap.size := by omega); (try have hal5 : w.heap.size ≤ w5.heap.size := by omega); (try have ham5 : w.heap.size < w5.heap.size + 2 := by omega))
    go_ret
    go_light
    exact ⟨rfl, by (repeat' (first | (with_reducible exact Below.refl _ _) | (with_reducible assumption) | (with_reducible refine Below.trans ?_ (Below.mono (by with_reducible assumption) ?_)) | (with_reducible refine Below.alloc ?_ ?_ _) | (with_reducible refine Below.setCell ?_ ?_ _) | (with_reducible refine below_drewN ?_ _) | (with_reducible refine Below.drew ?_) | go_size))⟩
set_option maxRecDepth 100000 in
set_option maxHeartbeats 8000000 in
theorem vecStable_in (A : Option Addr) (n c : Nat) (z : Nat → Int) (w : World) (hz : FlatAt w A 2 n z) (h1 : 1 ≤ n) (h5 : n ≤ 5) :
    Calls Try.prog 4 #[.slice A n c] w fun e w' => e = .returned (.bool true) ∧ Below w.heap.size w w' := by
  obtain ⟨B, O, rfl, hB, hcells⟩ := hz (by omega)
  have HC := Lib.hid hcells
  have h1' : (1 : Int) ≤ (n : Int) := by omega
  have h5' : (n : Int) ≤ 5 := by omega
  generalize hX : (fun j => z (j * 2)) = X at *
  generalize hY : (fun j => z (j * 2 + 1)) = Y at *
  have HX : Hid (∀ j, z (j * 2) = X j) := Lib.hid fun j => by rw [← hX]
  have HY : Hid (∀ j, z (j * 2 + 1) = Y j) := Lib.hid fun j => by rw [← hY]
  clear hz hcells hX hY
  go_enter Try.func4, Try.ntmps4
  go_wp2_with fail
  refine (vec_new n _ h1 h5).mono ?_; rintro e w1 ⟨b, ka, fl, rfl, HB1, b0, b1, b2, V1⟩
  have V0 := Lib.hid V1
  clear V1
  go_wp2
  go_loopw [5] (fun i wr => ∃ k : Nat, k ≤ n ∧ i = .int .i64 k ∧ VecAt wr b ka fl n (gK X Y X k) (gK X Y Y k) (fun _ => 0) (fun _ => 0) ∧ Below w.heap.size w wr) (fun i _ => n - (intOf i).toNat)
  case atStart => exact ⟨0, Nat.zero_le _, rfl, by rw [gK_zero, gK_zero]; exact V0.out, HB1⟩
  case round =>
    obtain ⟨k, hk, rfl, V, HB⟩ := hrel
    clear V0 HB1
    have lB : B < wr.heap.size := Nat.lt_of_lt_of_le hB HB.size
    by_cases hlt : k < n
    · have lk : (k : Int) < (n : Int) := by omega
      have x2 : wr.cell? ⟨B, O + k * 2, none⟩ = some (.int .i64 (X k)) := (HB.cell (p := ⟨B, O + k * 2, none⟩) hB).trans (by rw [← HX.out]; exact (HC.out (k * 2) (by omega)).1)
      have x3 : wr.cell? ⟨B, O + k * 2 + 1, none⟩ = some (.int .i64 (Y k)) := (HB.cell (p := ⟨B, O + (k * 2 + 1), none⟩) hB).trans (by rw [← HY.out]; exact (HC.out (k * 2 + 1) (by omega)).1)
      have HR := Lib.hid (vec_reach b ka fl n k _ _ _ _ (X k) (Y k) _ V (by omega))
      have HP := Lib.hid (stp_gK X Y n k hlt)
      have HQ := Lib.hid (stq_gK X Y n k hlt)
      clear V
      generalize X k = xk at *
      generalize Y k = yk at *
      go_wp2_with fail
      refine HR.out.mono ?_; rintro e w5 ⟨rfl, ho5, V5⟩
      rw [HP.out, HQ.out] at V5
      have HB5 : Below w.heap.size w w5 := HB.trans (ho5.below b1 HB.size)
      clear ho5
      go_wp2
      go_roundw
      case rel => exact ⟨k + 1, by omega, by go_num, V5, HB5⟩
      case measure => simp [intOf]; omega
    · obtain rfl : k = n := by omega
      have HM := Lib.hid (hasK_max k (gK X Y X k) (gK X Y Y k))
      have HG := Lib.hid (mnS_le (gK X Y X k) (gK X Y Y k) k)
      have HST := Lib.hid (vec_stable b ka fl k _ _ _ _ _ V (by omega))
      have HV := Lib.hid V
      clear V
      generalize hmm : mnS (gK X Y X k) (gK X Y Y k) k = mm at *
      clear hmm
      obtain ⟨M, C⟩ := mm
      go_wp2_with fail
      refine HST.out.mono ?_; rintro e w2 ⟨rfl, hb2⟩
      have V2 := Lib.hid ((HV.out.belowW hb2).belowW ((Below.refl _ _).alloc (Nat.le_refl _) (.cells #[.int .i64 M, .int .i64 C] 32)))
      have K2 := Lib.hid (Ints2.new w2 M C 32)
      have HB2 : Below w.heap.size w w2 := HB.trans (hb2.mono HB.size)
      have HB3 : Below w.heap.size w (w2.alloc (.cells #[.int .i64 M, .int .i64 C] 32)) := HB2.alloc HB2.size _
      have z2 := HB2.size
      clear hb2 HV HST
      go_wp2
      go_loopw [7, 8] (fun h i wr => ∃ j : Nat, j ≤ k ∧ i = .int .i64 j ∧ h = .bool (hasK k (gK X Y X k) (gK X Y Y k) M C j) ∧ Ints2 wr w2.heap.size M C ∧ VecAt wr b ka fl k (gK X Y X k) (gK X Y Y k) (fun _ => 0) (fun _ => 0) ∧ Below w.heap.size w wr) (fun _ i _ => k - (intOf i).toNat)
      case atStart => exact ⟨0, Nat.zero_le _, rfl, by unfold hasK; simp; omega, K2.out, V2.out, HB3⟩
      case round =>
        obtain ⟨j, hj, rfl, rfl, I, V, HB4⟩ := hrel
        clear K2 V2 HB3 HB lB
        have lB : B < wr.heap.size := Nat.lt_of_lt_of_le hB HB4.size
        by_cases hjt : j < k
        · have lj : (j : Int) < (k : Int) := by omega
          have HW := Lib.hid (want_cases X Y k j hjt)
          have HK := Lib.hid (vec_known b ka fl k j _ _ _ _ _ V (by omega))
          have hg : decide (0 < cmp2 M C (gK X Y X k j) (gK X Y Y k j)) = false := by
            have h : ¬ cmp2 (gK X Y X k j) (gK X Y Y k j) M C < 0 := by have := HG.out j hjt; omega
            rw [cmp2_flip M C] at h
            simp; omega
          have HS : Hid (hasK k (gK X Y X k) (gK X Y Y k) M C (j + 1) = (hasK k (gK X Y X k) (gK X Y Y k) M C j || (gK X Y X k j == M && gK X Y Y k j == C))) := Lib.hid rfl
          have HN0 := Lib.hid (kno_in k j hjt (gK X Y X k))
          have HN1 := Lib.hid (kno_in k j hjt (gK X Y Y k))
          have x2 : ∀ W : World, Below w.heap.size w W → W.cell? ⟨B, O + j * 2, none⟩ = some (.int .i64 (X j)) := fun W hb => (hb.cell (p := ⟨B, O + j * 2, none⟩) hB).trans (by rw [← HX.out]; exact (HC.out (j * 2) (by omega)).1)
          have x3 : ∀ W : World, Below w.heap.size w W → W.cell? ⟨B, O + j * 2 + 1, none⟩ = some (.int .i64 (Y j)) := fun W hb => (hb.cell (p := ⟨B, O + (j * 2 + 1), none⟩) hB).trans (by rw [← HY.out]; exact (HC.out (j * 2 + 1) (by omega)).1)
          have HHg := Lib.hid hg
          have HIV := Lib.hid (And.intro I V)
          have X2 := Lib.hid x2
          have X3 := Lib.hid x3
          clear hg I V x2 x3
          go_wp2_with fail
          refine HK.out.mono ?_; rintro e w5 ⟨rfl, hb5⟩
          rw [HN0.out, HN1.out]
          have HB5 : Below w.heap.size w w5 := HB4.trans (hb5.mono HB4.size)
          have I5 := HIV.out.1.below hb5 HIV.out.1.lt
          have V5 := HIV.out.2.belowW hb5
          have z5 := HB5.size
          have lB5 : B < w5.heap.size := Nat.lt_of_lt_of_le hB HB5.size
          have x2 := X2.out w5 HB5
          have x3 := X3.out w5 HB5
          have HV5 := Lib.hid V5
          have hg := HHg.out
          have hw := HW.out
          clear hb5 HK HIV HN0 HN1 V5 X2 X3 HHg HW
          generalize hasK k (gK X Y X k) (gK X Y Y k) M C j = bk at *
          generalize X j = a0 at *
          generalize Y j = a1 at *
          generalize gK X Y X k j = g0 at *
          generalize gK X Y Y k j = g1 at *
          have K9 := Lib.hid ((Ints2.new w5 g0 g1 32).alloc (.cells #[.int .i64 a0, .int .i64 a1] 32))
          have K10 := Lib.hid (Ints2.new1 w5 (.cells #[.int .i64 g0, .int .i64 g1] 32) a0 a1 32)
          have I5' := Lib.hid ((I5.alloc (.cells #[.int .i64 g0, .int .i64 g1] 32)).alloc (.cells #[.int .i64 a0, .int .i64 a1] 32))
          have HG9 := Lib.hid hg
          clear hg
          go_wp2_with fail
          refine (ref10_is a0 a1 _).mono ?_; rintro e w6 ⟨rfl, hb6⟩
          have L9 := K9.out.below hb6 K9.out.lt
          have L10 := K10.out.below hb6 K10.out.lt
          have L6 := I5'.out.below hb6 I5'.out.lt
          have HX6 : Below w5.heap.size w5 w6 := Below.trans (by (repeat' (first | (with_reducible exact Below.refl _ _) | (with_reducible assumption) | (with_reducible refine Below.trans ?_ (Below.mono (by with_reducible assumption) ?_)) | (with_reducible refine Below.alloc ?_ ?_ _) | (with_reducible refine Below.setCell ?_ ?_ _) | (with_reducible refine below_drewN ?_ _) | (with_reducible refine Below.drew ?_) | go_size))) (hb6.mono (by simp; try omega))
          have z6 := HX6.size
          have i5 := I5.lt
          clear hb6 K9 K10 I5' x2 x3
          rcases hw with ⟨hs, rfl, rfl⟩ | ⟨hs, hc, rfl, rfl⟩ | ⟨hs, hc, rfl, rfl⟩
          · obtain ⟨p0, p1, e0, e1, pl⟩ := L9
            obtain ⟨q0, q1, f0, f1, ql⟩ := L10
            obtain ⟨r0, r1, s0, s1, rl⟩ := L6
            have hg := HG9.out
            rw [hs]
            clear hs
            cases d1 : ((0 : Int) == M) <;> cases d2 : ((0 : Int) == C) <;> rw [d1, d2] at HS <;> cases bk
            all_goals
              go_wp2_with (go_at_call 21; refine (ref10_compare _ _ _ _ _).mono ?_; rintro e w7 ⟨rfl, hb7⟩)
              have HX7 : Below w5.heap.size w5 w7 := Below.trans (by (repeat' (first | (with_reducible exact Below.refl _ _) | (with_reducible assumption) | (with_reducible refine Below.trans ?_ (Below.mono (by with_reducible assumption) ?_)) | (with_reducible refine Below.alloc ?_ ?_ _) | (with_reducible refine Below.setCell ?_ ?_ _) | (with_reducible refine below_drewN ?_ _) | (with_reducible refine Below.drew ?_) | go_size))) (hb7.mono (by simp [World.setCell]; try omega))
              have HB7 := HB5.trans (HX7.mono HB5.size)
              go_roundw
              case rel => exact ⟨j + 1, by omega, by go_num, by rw [HS.out]; rfl, I5.below HX7 I5.lt, HV5.out.belowW HX7, HB7⟩
              case measure => simp [intOf]; omega
          · obtain ⟨p0, p1, e0, e1, pl⟩ := L9
            obtain ⟨q0, q1, f0, f1, ql⟩ := L10
            rw [hs]
            clear hs
            cases d1 : ((0 : Int) == M) <;> cases d2 : ((0 : Int) == C) <;> rw [d1, d2] at HS <;> cases bk
            all_goals
              go_wp2_with fail
              refine (ref10_compare _ _ _ _ _).mono ?_; rintro e w7 ⟨rfl, hb7⟩
              have HX7 : Below w5.heap.size w5 w7 := Below.trans (by (repeat' (first | (with_reducible exact Below.refl _ _) | (with_reducible assumption) | (with_reducible refine Below.trans ?_ (Below.mono (by with_reducible assumption) ?_)) | (with_reducible refine Below.alloc ?_ ?_ _) | (with_reducible refine Below.setCell ?_ ?_ _) | (with_reducible refine below_drewN ?_ _) | (with_reducible refine Below.drew ?_) | go_size))) (hb7.mono HX6.size)
              have L9' := (Ints2.mk p0 p1 e0 e1 pl).below hb7 pl
              have L10' := (Ints2.mk q0 q1 f0 f1 ql).below hb7 ql
              have L6' := L6.below hb7 L6.lt
              have z7 := HX7.size
              obtain ⟨p0', p1', e0', e1', pl'⟩ := L9'
              obtain ⟨q0', q1', f0', f1', ql'⟩ := L10'
              obtain ⟨r0', r1', s0', s1', rl'⟩ := L6'
              have hg := HG9.out
              clear hb7 p0 p1 e0 e1 pl q0 q1 f0 f1 ql
              go_wp2_with fail
              refine (ref10_compare _ _ _ _ _).mono ?_; rintro e w8 ⟨rfl, hb8⟩
              have HX8 : Below w5.heap.size w5 w8 := Below.trans (by (repeat' (first | (with_reducible exact Below.refl _ _) | (with_reducible assumption) | (with_reducible refine Below.trans ?_ (Below.mono (by with_reducible assumption) ?_)) | (with_reducible refine Below.alloc ?_ ?_ _) | (with_reducible refine Below.setCell ?_ ?_ _) | (with_reducible refine below_drewN ?_ _) | (with_reducible refine Below.drew ?_) | go_size))) (hb8.mono (by first | exact HX7.size | (simp [World.setCell]; try omega)))
              have HB8 := HB5.trans (HX8.mono HB5.size)
              clear hb8
              go_wp2
              go_roundw
              case rel => exact ⟨j + 1, by omega, by go_num, by rw [HS.out]; rfl, I5.below HX8 I5.lt, HV5.out.belowW HX8, HB8⟩
              case measure => simp [intOf]; omega
          · obtain ⟨p0, p1, e0, e1, pl⟩ := L9
            obtain ⟨q0, q1, f0, f1, ql⟩ := L10
            rw [hs]
            clear hs
            cases d1 : ((g0 : Int) == M) <;> cases d2 : ((g1 : Int) == C) <;> rw [d1, d2] at HS <;> cases bk
            all_goals
              go_wp2_with fail
              refine (ref10_compare _ _ _ _ _).mono ?_; rintro e w7 ⟨rfl, hb7⟩
              have HX7 : Below w5.heap.size w5 w7 := Below.trans (by (repeat' (first | (with_reducible exact Below.refl _ _) | (with_reducible assumption) | (with_reducible refine Below.trans ?_ (Below.mono (by with_reducible assumption) ?_)) | (with_reducible refine Below.alloc ?_ ?_ _) | (with_reducible refine Below.setCell ?_ ?_ _) | (with_reducible refine below_drewN ?_ _) | (with_reducible refine Below.drew ?_) | go_size))) (hb7.mono HX6.size)
              have L9' := (Ints2.mk p0 p1 e0 e1 pl).below hb7 pl
              have L10' := (Ints2.mk q0 q1 f0 f1 ql).below hb7 ql
              have L6' := L6.below hb7 L6.lt
              have z7 := HX7.size
              obtain ⟨p0', p1', e0', e1', pl'⟩ := L9'
              obtain ⟨q0', q1', f0', f1', ql'⟩ := L10'
              obtain ⟨r0', r1', s0', s1', rl'⟩ := L6'
              have hg := HG9.out
              clear hb7 p0 p1 e0 e1 pl q0 q1 f0 f1 ql
              go_wp2_with fail
              refine (ref10_compare _ _ _ _ _).mono ?_; rintro e w8 ⟨rfl, hb8⟩
              have HX8 : Below w5.heap.size w5 w8 := Below.trans (by (repeat' (first | (with_reducible exact Below.refl _ _) | (with_reducible assumption) | (with_reducible refine Below.trans ?_ (Below.mono (by with_reducible assumption) ?_)) | (with_reducible refine Below.alloc ?_ ?_ _) | (with_reducible refine Below.setCell ?_ ?_ _) | (with_reducible refine below_drewN ?_ _) | (with_reducible refine Below.drew ?_) | go_size))) (hb8.mono (by first | exact HX7.size | (simp [World.setCell]; try omega)))
              have HB8 := HB5.trans (HX8.mono HB5.size)
              clear hb8
              go_wp2
              go_roundw
              case rel => exact ⟨j + 1, by omega, by go_num, by rw [HS.out]; rfl, I5.below HX8 I5.lt, HV5.out.belowW HX8, HB8⟩
              case measure => simp [intOf]; omega
        · obtain rfl : j = k := by omega
          rw [HM.out]
          have z3 := HB4.size
          go_wp2_with (go_at_call 10; refine (known20 _).mono ?_; rintro e w5 ⟨rfl, hb5⟩; obtain ⟨hc5, hf5⟩ := bcell hb5; have hz5 := hb5.size; (try simp only [World.size_alloc, World.size_setCell, World.heap_drewN] at hb5 hc5 hf5 hz5); (try have ha05 : w.heap.size < w5.heap.size := by omega); (try have ha15 : w.heap.size + 1 < w5.heap.size := by omega); (try have ha25 : w.heap.size + 2 < w5.heap.size := by omega); (try have hal5 : w.heap.size ≤ w5.heap.size := by omega); (try have ham5 : w.heap.size < w5.heap.size + 2 := by omega))
          go_ret
          go_light
          exact ⟨rfl, by (repeat' (first | (with_reducible exact Below.refl _ _) | (with_reducible assumption) | (with_reducible refine Below.trans ?_ (Below.mono (by with_reducible assumption) ?_)) | (with_reducible refine Below.alloc ?_ ?_ _) | (with_reducible refine Below.setCell ?_ ?_ _) | (with_reducible refine below_drewN ?_ _) | (with_reducible refine Below.drew ?_) | go_size))⟩
set_option maxRecDepth 100000 in
theorem vecStable_lifted (os : Os) (started : os.Started) (H : Type) (enc : TypeId × Value → H) :
    ReturnsInHanded {} Try.checked os 4 .any (Rows.vecStableSpec.pre6 enc Try.prog Try.f4 Rows.vecStableRow.domain false) (Rows.vecStableSpec.post enc Try.prog Try.f4 false true false false) := by
  refine returnsInHanded_of_change_sized (C := Try.checked) law_own started (by kernel_rfl) Try.func4
    (ChangeSpec.witness6 (enc := enc) (C := Try.checked) false ⟨#[], #[.slice none 0 0], []⟩ 8 (by kernel_rfl) (by kernel_rfl) (by kernel_rfl) (by kernel_rfl)) ?_
  intro W base args ds gs before hval0 hW hcnd hsz0 _
  have hval : ∀ (j : Nat) t v, Try.f4.params[j]? = some t → args[j]? = some v → Value.okWide Try.prog W .any base t v := hval0
  have hsz : (DataW.weightsEach Try.prog (Try.f4.params.toList ++ Rows.vecStableSpec.plain.varTypes Try.prog) (ds ++ gs)).all (· ≤ reachBytes) = true := hsz0
  have hW' := hW
  obtain ⟨p, q, hA0, hV, rfl, hfz, hnd⟩ := hW
  have hA : DataW.TrodAll enc Try.prog W 0 (fun _ => true) true Try.f4.params.toList args.toList ds p := hA0
  rw [Try.params4] at hA hval hsz
  have hsame : (Rows.vecStableSpec.fn H (ds ++ gs)).results = [.lit (.bool true)] ∧ (Rows.vecStableSpec.fn H (ds ++ gs)).args = ds ∧ (Rows.vecStableSpec.fn H (ds ++ gs)).vars = [] → ∀ W', Below W.heap.size W W' → Rows.vecStableSpec.post enc Try.prog Try.f4 false true false false W args (.bool true) W' :=
    fun h W' hb => law_post (tb := 4) hW' law_laid (by kernel_rfl) rfl Try.underlying4 h.1 h.2.1 rfl h.2.2 hb
  obtain ⟨v0, vs0, d0, ds0, p0, q0, hargs, rfl, rfl, h0, r0⟩ := trodAll_cons hA
  obtain ⟨rfl, rfl, rfl⟩ := trodAll_nil r0
  obtain rfl : args = #[v0] := by cases args; simp_all
  obtain ⟨rfl, rfl⟩ := trodVars_none hV
  have hpost := hsame ⟨rfl, rfl, rfl⟩
  clear hsame hA0 hval0 hsz0
  obtain ⟨A, n, c, z, rfl, hn, hz⟩ := open_flat_slice (m := 2) Try.underlying40 (by kernel_rfl) (by kernel_rfl) (by omega) (hval 0 40 v0 rfl rfl) h0
  by_cases h : 1 ≤ n ∧ n ≤ 5
  · exact (vecStable_in A n c z W hz h.1 h.2).mono fun e W' ⟨he, hb⟩ => ⟨_, he, hpost W' hb⟩
  · exact (vecStable_out A n c W (by omega) hn).mono fun e W' ⟨he, hb⟩ => ⟨_, he, hpost W' hb⟩
theorem vecStable_holds : Rows.VecStableSaid :=
  OpenClaim.holds_of_wide 4 Try.f4 rfl rfl rfl rfl rfl rfl rfl ⟨rfl, rfl, rfl, rfl, rfl⟩ rfl rfl rfl rfl rfl (by kernel_rfl) Try.func4 (by kernel_rfl)
    (of_decide_eq_true (by kernel_rfl)) (by unfold Func.isWrapper; first | (rw [if_pos (by decide +kernel)]; kernel_rfl) | (rw [if_neg (by decide +kernel)]; exact ⟨rfl, rfl⟩))
    (fun os started H enc _ => vecStable_lifted os started H enc)
end Go.Proofs.Ytpelglclkfabkaa
