/- Stage 10: HlcMax. -/
import Derived.Test.YtmbopdabbegbiaaS10A
import Derived.Test.YtmbopdabbegbiaaHlcMax
import Derived.Test.YtmbopdabbegbiaaCells
set_option linter.unusedSimpArgs false
set_option linter.unusedVariables false
namespace Go.Proofs.Ytmbopdabbegbiaa
open Go.RowKit

theorem cmp2_pos (m c p q : Int) : 0 < cmp2 m c p q ↔ p < m ∨ (p = m ∧ q < c) := by
  unfold cmp2 or2 cmp1
  rcases (show m < p ∨ m = p ∨ p < m from by omega) with h | h | h
  · have h2 : ¬ p < m := by omega
    simp [h, h2]; omega
  · subst h
    rcases (show c < q ∨ c = q ∨ q < c from by omega) with h | h | h
    · have h2 : ¬ q < c := by omega
      simp [h, h2]
    · subst h; simp
    · have h2 : ¬ c < q := by omega
      simp [h, h2]
  · have h2 : ¬ m < p := by omega
    simp [h, h2]
theorem mxS_ge (p q : Nat → Int) (k : Nat) : ∀ j, j < k → ¬ 0 < cmp2 (p j) (q j) (mxS p q k).1 (mxS p q k).2 := by
  induction k with
  | zero => intro j hj; omega
  | succ k ih =>
    intro j hj
    by_cases h0 : k = 0
    · subst h0
      obtain rfl : j = 0 := by omega
      show ¬ 0 < cmp2 (p 0) (q 0) (p 0) (q 0)
      rw [cmp2_pos]; omega
    · rw [mxS_step p q k h0]
      generalize mxS p q k = m at *
      obtain ⟨m1, m2⟩ := m
      have ih' := ih j
      simp only [mx1, mx2, gt2, cmp2_pos] at ih' ⊢
      rcases (show j < k ∨ j = k from by omega) with hj' | rfl
      · have := ih' hj'
        split <;> simp_all <;> omega
      · split <;> simp_all <;> omega
theorem mxS_mem (p q : Nat → Int) (k : Nat) : 0 < k → ∃ j, j < k ∧ p j = (mxS p q k).1 ∧ q j = (mxS p q k).2 := by
  induction k with
  | zero => intro h; omega
  | succ k ih =>
    intro _
    by_cases h0 : k = 0
    · subst h0
      exact ⟨0, by omega, rfl, rfl⟩
    · obtain ⟨j, hj, h1, h2⟩ := ih (by omega)
      rw [mxS_step p q k h0]
      by_cases hg : gt2 (mxS p q k).1 (mxS p q k).2 (p k) (q k) = true
      · exact ⟨k, by omega, by simp [mx1, hg], by simp [mx2, hg]⟩
      · exact ⟨j, by omega, by simp [mx1, hg, h1], by simp [mx2, hg, h2]⟩
/-- Was one of the first k the given one? -/
def hasK (n : Nat) (p q : Nat → Int) (M C : Int) : Nat → Bool
  | 0 => decide (n = 0)
  | k + 1 => hasK n p q M C k || (p k == M && q k == C)
theorem hasK_of {n : Nat} {p q : Nat → Int} {M C : Int} {j : Nat} : ∀ k, j < k → p j = M → q j = C → hasK n p q M C k = true := by
  intro k
  induction k with
  | zero => intro h; omega
  | succ k ih =>
    intro h h1 h2
    unfold hasK
    rcases (show j < k ∨ j = k from by omega) with hj | rfl
    · rw [ih hj h1 h2]; rfl
    · simp [h1, h2]
theorem hasK_max (n : Nat) (p q : Nat → Int) : hasK n p q (mxS p q n).1 (mxS p q n).2 n = true := by
  rcases Nat.eq_zero_or_pos n with rfl | h
  · rfl
  · obtain ⟨j, hj, h1, h2⟩ := mxS_mem p q n h
    exact hasK_of n hj h1 h2
theorem stamp_info : (Try.prog.info? 32).map (fun i => (i.zero, i.size, i.bytes)) = some (some (.agg #[.int .i64 0, .int .i64 0]), 2, 16) := by kernel_rfl
theorem hlcMax_out (A : Option Addr) (n c : Nat) (w : World) (h : 500 < n) (hn : n ≤ maxLen) :
    Calls Try.prog 8 #[.slice A n c] w fun e w' => e = .returned (.bool true) ∧ Below w.heap.size w w' := by
  unfold maxLen at hn
  have h' : (500 : Int) < (n : Int) := by omega
  go_enter Try.func8, Try.ntmps8
  go_wp2
  go_ret
  exact ⟨rfl, Below.refl _ _⟩
set_option maxHeartbeats 4000000 in
theorem hlcMax_some (ad : Addr) (n c : Nat) (z : Nat → Int) (w : World) (hz : FlatAt w (some ad) 2 n z) (hn : n ≤ 500) :
    Calls Try.prog 8 #[.slice (some ad) n c] w fun e w' => e = .returned (.bool true) ∧ Below w.heap.size w w' := by
  obtain ⟨i0, hi, hz0, hz1, hz2⟩ := info_parts stamp_info
  have hn' : (n : Int) ≤ 500 := by omega
  have HW0 : Below w.heap.size w (w.alloc (.cells #[] 32)) := by (repeat' (first | (with_reducible exact Below.refl _ _) | (with_reducible assumption) | (with_reducible refine Below.trans ?_ (Below.mono (by with_reducible assumption) ?_)) | (with_reducible refine Below.alloc ?_ ?_ _) | (with_reducible refine Below.setCell ?_ ?_ _) | (with_reducible refine below_drewN ?_ _) | (with_reducible refine Below.drew ?_) | go_size))
  have hsrc := (hz.below HW0).cells
  have HZ := Lib.hid hz
  have HM := Lib.hid (hasK_max n (fun j => z (j * 2)) (fun j => z (j * 2 + 1)))
  have HG := Lib.hid (mxS_ge (fun j => z (j * 2)) (fun j => z (j * 2 + 1)) n)
  clear hz
  go_enter Try.func8, Try.ntmps8
  go_wp2_with (at_builtin; refine wpList_append_own _ rfl (.tmp 9) (.tmp 10) _ rfl w.heap.size 32 i0 _ 2 16 Try.underlying61 hi hz0 hz1 hz2 rfl (by decide) (.slice (some ⟨w.heap.size, 0, none⟩) 0 0) 0 [] rfl (World.ownsRow_made w #[] 0 (Nat.le_refl _) (Nat.zero_le _) rfl) ad n c (cellsOf z (n * 2)) rfl (cellsOf_len _ _) hsrc (cellsOf_one _ _) (by unfold maxLen; omega) (by omega) (by simp) ?_; intro v1 w1 hown1 hg1 hat1)
  have hown : w1.ownsRow w.heap.size 32 2 v1 n (cellsOf z (n * 2)) := by simpa using hown1
  have HB1 : Below w.heap.size w w1 := HW0.grown hg1 (by simp) (fun k hk => by simp [Value.ownBlock] at hk; omega)
  obtain ⟨A1, c1, rfl, hp⟩ := own_pairs hown
  clear hown hown1 hg1 hat1 hsrc HW0
  refine (hlc_max_any _ _ A1 n c1 _ (by omega) hp).mono ?_; rintro e w2 ⟨rfl, hb2⟩
  have HB2 : Below w.heap.size w w2 := HB1.trans (hb2.mono HB1.size)
  clear hb2 hp HB1
  have hm0 : n = 0 → mxS (fun j => z (j * 2)) (fun j => z (j * 2 + 1)) n = (0, 0) := by rintro rfl; rfl
  generalize mxS (fun j => z (j * 2)) (fun j => z (j * 2 + 1)) n = mm at *
  obtain ⟨M, C⟩ := mm
  have K3 := Lib.hid (Ints2.new w2 M C 32)
  have HB3 : Below w.heap.size w (w2.alloc (.cells #[.int .i64 M, .int .i64 C] 32)) := HB2.alloc HB2.size _
  by_cases hn0 : n = 0
  · have hmz := hm0 hn0
    have e0 : ((n : Int) == 0) = true := by simp [hn0]
    obtain ⟨rfl, rfl⟩ : M = 0 ∧ C = 0 := by simpa using hmz
    clear hmz hm0
    have e1 : (n : Int) = 0 := by omega
    have z3 : w.heap.size ≤ w2.heap.size + 1 := by have := HB2.size; omega
    clear hn0
    go_wp2
    refine wp_loop_rounds 1 ?_
    rw [rounds_succ]
    go_wp2_with (go_at_call 16; refine (known10 _).mono ?_; rintro e w5 ⟨rfl, hb5⟩; obtain ⟨hc5, hf5⟩ := bcell hb5; have hz5 := hb5.size; (try simp only [World.size_alloc, World.size_setCell, World.heap_drewN] at hb5 hc5 hf5 hz5); (try have ha05 : w.heap.size < w5.heap.size := by omega); (try have ha15 : w.heap.size + 1 < w5.heap.size := by omega); (try have ha25 : w.heap.size + 2 < w5.heap.size := by omega); (try have hal5 : w.heap.size ≤ w5.heap.size := by omega); (try have ham5 : w.heap.size < w5.heap.size + 2 := by omega))
    go_ret
    go_light
    exact ⟨rfl, by (repeat' (first | (with_reducible exact Below.refl _ _) | (with_reducible assumption) | (with_reducible refine Below.trans ?_ (Below.mono (by with_reducible assumption) ?_)) | (with_reducible refine Below.alloc ?_ ?_ _) | (with_reducible refine Below.setCell ?_ ?_ _) | (with_reducible refine below_drewN ?_ _) | (with_reducible refine Below.drew ?_) | go_size))⟩
  · have e0 : ((n : Int) == 0) = false := by simp; omega
    clear hm0
    go_wp2
    go_loopw [4, 5] (fun h i wr => ∃ k : Nat, k ≤ n ∧ i = .int .i64 k ∧ h = .bool (hasK n (fun j => z (j * 2)) (fun j => z (j * 2 + 1)) M C k) ∧ Ints2 wr w2.heap.size M C ∧ Below w.heap.size w wr) (fun _ i _ => n - (intOf i).toNat)
    case atStart => exact ⟨0, Nat.zero_le _, rfl, by unfold hasK; simp [hn0], K3.out, HB3⟩
    case round =>
      obtain ⟨k, hk, rfl, rfl, I1, HB⟩ := hrel
      clear K3 HB3
      have lr := I1.lt
      by_cases hlt : k < n
      · obtain ⟨B, O, he, hB, hcells⟩ := HZ.out (by omega)
        injection he with he
        subst he
        have lB : B < wr.heap.size := Nat.lt_of_lt_of_le hB HB.size
        have lk : (k : Int) < (n : Int) := by omega
        have x2 : wr.cell? ⟨B, O + k * 2, none⟩ = some (.int .i64 (z (k * 2))) := (HB.cell (p := ⟨B, O + k * 2, none⟩) hB).trans (hcells (k * 2) (by omega)).1
        have x3 : wr.cell? ⟨B, O + k * 2 + 1, none⟩ = some (.int .i64 (z (k * 2 + 1))) := (HB.cell (p := ⟨B, O + (k * 2 + 1), none⟩) hB).trans (hcells (k * 2 + 1) (by omega)).1
        have hg := HG.out k hlt
        have HS : Hid (hasK n (fun j => z (j * 2)) (fun j => z (j * 2 + 1)) M C (k + 1) = (hasK n (fun j => z (j * 2)) (fun j => z (j * 2 + 1)) M C k || (z (k * 2) == M && z (k * 2 + 1) == C))) := Lib.hid rfl
        clear hcells
        generalize z (k * 2) = a0 at *
        generalize z (k * 2 + 1) = a1 at *
        have hg' : decide (0 < cmp2 a0 a1 M C) = false := by simpa using hg
        clear hg
        have I1' := I1
        obtain ⟨x0, x1, g0, g1, _⟩ := I1'
        generalize hasK n (fun j => z (j * 2)) (fun j => z (j * 2 + 1)) M C k = bk at *
        cases h1 : (a0 == M) <;> cases h2 : (a1 == C) <;> rw [h1, h2] at HS <;> cases bk
        all_goals
          · go_wp2
            go_quiet (fail)
            have J1 := I1.drewN nq
            have HBq : Below w.heap.size w (wr.drewN nq) := by (repeat' (first | (with_reducible exact Below.refl _ _) | (with_reducible assumption) | (with_reducible refine Below.trans ?_ (Below.mono (by with_reducible assumption) ?_)) | (with_reducible refine Below.alloc ?_ ?_ _) | (with_reducible refine Below.setCell ?_ ?_ _) | (with_reducible refine below_drewN ?_ _) | (with_reducible refine Below.drew ?_) | go_size))
            have y2 : (wr.drewN nq).cell? ⟨B, O + k * 2, none⟩ = some (.int .i64 a0) := x2
            have y3 : (wr.drewN nq).cell? ⟨B, O + k * 2 + 1, none⟩ = some (.int .i64 a1) := x3
            have lB' : B < (wr.drewN nq).heap.size := lB
            generalize wr.drewN nq = w5 at *
            clear x0 x1 x2 x3 g0 g1 I1 HB lB lr
            have lr := J1.lt
            obtain ⟨x0, x1, g0, g1, _⟩ := J1
            go_wp2
            go_region_held3 (fun w' => w'.cell? ⟨B, O + k * 2, none⟩ = some (.int .i64 a0) ∧ w'.cell? ⟨B, O + k * 2 + 1, none⟩ = some (.int .i64 a1) ∧ w'.cell? ⟨w2.heap.size, 0, none⟩ = some (.int .i64 M) ∧ w'.cell? ⟨w2.heap.size, 1, none⟩ = some (.int .i64 C)) (first | (simp [go_sem, y2, y3, x0, x1]; done) | (simp [go_sem, hc6 _ _ lB', hc6 _ _ lr, y2, y3, x0, x1]; done))
              (first | (go_at_call 31; refine (hlc_compare _ _ _ _ _).mono ?_; rintro e w6 ⟨rfl, hb6⟩; obtain ⟨hc6, hf6⟩ := bcell hb6; have hz6 := hb6.size; (try simp only [World.size_alloc, World.size_setCell, World.heap_drewN] at hb6 hc6 hf6 hz6); (try have ha06 : w.heap.size < w6.heap.size := by omega); (try have ha16 : w.heap.size + 1 < w6.heap.size := by omega); (try have ha26 : w.heap.size + 2 < w6.heap.size := by omega); (try have hal6 : w.heap.size ≤ w6.heap.size := by omega); (try have ham6 : w.heap.size < w6.heap.size + 2 := by omega); (try have hb06 : w5.heap.size < w6.heap.size := by omega); (try have hb16 : w5.heap.size + 1 < w6.heap.size := by omega); (try have hb26 : w5.heap.size + 2 < w6.heap.size := by omega); (try have hbl6 : w5.heap.size ≤ w6.heap.size := by omega); (try have hbm6 : w5.heap.size < w6.heap.size + 2 := by omega)))
            have I6 : Ints2 w6 w2.heap.size M C := by first | exact (Ints2.mk x0 x1 g0 g1 lr).below hb6 lr | exact (Ints2.mk x0 x1 g0 g1 lr).drew.below hb6 lr
            have HB6 : Below w.heap.size w w6 := by first | exact HBq.trans (hb6.mono HBq.size) | exact (Below.drew HBq).trans (hb6.mono HBq.size)
            go_wp2
            go_roundw
            case rel => exact ⟨k + 1, by omega, by go_num, by rw [HS.out]; rfl, I6, HB6⟩
            case measure => simp [intOf]; omega
      · obtain rfl : k = n := by omega
        rw [HM.out]
        have z2 := HB.size
        go_wp2_with (go_at_call 16; refine (known10 _).mono ?_; rintro e w5 ⟨rfl, hb5⟩; obtain ⟨hc5, hf5⟩ := bcell hb5; have hz5 := hb5.size; (try simp only [World.size_alloc, World.size_setCell, World.heap_drewN] at hb5 hc5 hf5 hz5); (try have ha05 : w.heap.size < w5.heap.size := by omega); (try have ha15 : w.heap.size + 1 < w5.heap.size := by omega); (try have ha25 : w.heap.size + 2 < w5.heap.size := by omega); (try have hal5 : w.heap.size ≤ w5.heap.size := by omega); (try have ham5 : w.heap.size < w5.heap.size + 2 := by omega))
        go_ret
        go_light
        exact ⟨rfl, by (repeat' (first | (with_reducible exact Below.refl _ _) | (with_reducible assumption) | (with_reducible refine Below.trans ?_ (Below.mono (by with_reducible assumption) ?_)) | (with_reducible refine Below.alloc ?_ ?_ _) | (with_reducible refine Below.setCell ?_ ?_ _) | (with_reducible refine below_drewN ?_ _) | (with_reducible refine Below.drew ?_) | go_size))⟩
theorem hlcMax_nil (w : World) : Calls Try.prog 8 #[.slice none 0 0] w fun e w' => e = .returned (.bool true) ∧ Below w.heap.size w w' := by
  obtain ⟨i0, hi, hz0, hz1, hz2⟩ := info_parts stamp_info
  have HW0 : Below w.heap.size w (w.alloc (.cells #[] 32)) := by (repeat' (first | (with_reducible exact Below.refl _ _) | (with_reducible assumption) | (with_reducible refine Below.trans ?_ (Below.mono (by with_reducible assumption) ?_)) | (with_reducible refine Below.alloc ?_ ?_ _) | (with_reducible refine Below.setCell ?_ ?_ _) | (with_reducible refine below_drewN ?_ _) | (with_reducible refine Below.drew ?_) | go_size))
  go_enter Try.func8, Try.ntmps8
  go_wp2_with fail
  refine (hlc_max_any (fun _ => 0) (fun _ => 0) _ 0 0 _ (by omega) (fun h => absurd h (by omega))).mono ?_; rintro e w2 ⟨rfl, hb2⟩
  have HB2 : Below w.heap.size w w2 := HW0.trans (hb2.mono HW0.size)
  have z3 : w.heap.size ≤ w2.heap.size + 1 := by have := HB2.size; omega
  have z4 := HB2.size
  clear hb2
  have e0 : mxS (fun _ => 0) (fun _ => 0) 0 = (0, 0) := rfl
  rw [e0]
  clear e0
  go_wp2
  refine wp_loop_rounds 1 ?_
  rw [rounds_succ]
  go_wp2_with (go_at_call 16; refine (known10 _).mono ?_; rintro e w5 ⟨rfl, hb5⟩; obtain ⟨hc5, hf5⟩ := bcell hb5; have hz5 := hb5.size; (try simp only [World.size_alloc, World.size_setCell, World.heap_drewN] at hb5 hc5 hf5 hz5); (try have ha05 : w.heap.size < w5.heap.size := by omega); (try have ha15 : w.heap.size + 1 < w5.heap.size := by omega); (try have ha25 : w.heap.size + 2 < w5.heap.size := by omega); (try have hal5 : w.heap.size ≤ w5.heap.size := by omega); (try have ham5 : w.heap.size < w5.heap.size + 2 := by omega))
  go_ret
  go_light
  exact ⟨rfl, by (repeat' (first | (with_reducible exact Below.refl _ _) | (with_reducible assumption) | (with_reducible refine Below.trans ?_ (Below.mono (by with_reducible assumption) ?_)) | (with_reducible refine Below.alloc ?_ ?_ _) | (with_reducible refine Below.setCell ?_ ?_ _) | (with_reducible refine below_drewN ?_ _) | (with_reducible refine Below.drew ?_) | go_size))⟩
end Go.Proofs.Ytmbopdabbegbiaa
